package root_test

import (
	"math/big"
	"slices"

	"isochrone/api"
)

// coefs is a polynomial: its coefficients from the constant upwards, the last one not zero. Its functions do what the chapter says in the simplest way that there is, to compare with.
type coefs []*big.Rat

func (p coefs) trimmed() coefs {
	n := len(p)
	for n > 0 && p[n-1].Sign() == 0 {
		n--
	}
	return p[:n]
}

// list returns the coefficient list, which is not valid if it breaks a limit.
func (p coefs) list() []api.Rat {
	var c []api.Rat
	for _, x := range p {
		c = append(c, fromBigRat(x))
	}
	return c
}

func (p coefs) at(k int) *big.Rat {
	if k < len(p) {
		return p[k]
	}
	return new(big.Rat)
}

func (p coefs) plus(q coefs) coefs {
	var sum coefs
	for k := range max(len(p), len(q)) {
		sum = append(sum, plus(p.at(k), q.at(k)))
	}
	return sum.trimmed()
}

func (p coefs) scaled(c *big.Rat) coefs {
	var multiple coefs
	for _, x := range p {
		multiple = append(multiple, times(x, c))
	}
	return multiple.trimmed()
}

func (p coefs) minus(q coefs) coefs {
	return p.plus(q.scaled(whole(-1)))
}

func (p coefs) times(q coefs) coefs {
	product := make(coefs, max(len(p)+len(q)-1, 0))
	for k := range product {
		product[k] = new(big.Rat)
	}
	for i, x := range p {
		for k, y := range q {
			product[i+k].Add(product[i+k], times(x, y))
		}
	}
	return product.trimmed()
}

func (p coefs) last() *big.Rat {
	return p[len(p)-1]
}

func (p coefs) divMod(q coefs) (quotient, rest coefs) {
	rest = p
	for len(rest) >= len(q) {
		part := monomial(over(rest.last(), q.last()), len(rest)-len(q))
		quotient = quotient.plus(part)
		rest = rest.minus(q.times(part))
	}
	return quotient, rest
}

func (p coefs) monic() coefs {
	if len(p) == 0 {
		return nil
	}
	return p.scaled(new(big.Rat).Inv(p.last()))
}

func (p coefs) gcd(q coefs) coefs {
	for len(q) > 0 {
		_, rest := p.divMod(q)
		p, q = q, rest.monic()
	}
	return p.monic()
}

func (p coefs) deriv() coefs {
	var d coefs
	for k, x := range p {
		if k > 0 {
			d = append(d, times(x, whole(k)))
		}
	}
	return d
}

func (p coefs) squareFree() coefs {
	free, _ := p.divMod(p.gcd(p.deriv()))
	return free.monic()
}

func (p coefs) eval(x *big.Rat) *big.Rat {
	value := new(big.Rat)
	for _, c := range slices.Backward(p) {
		value = plus(times(value, x), c)
	}
	return value
}

func (p coefs) bound() *big.Rat {
	monic := p.monic()
	most := new(big.Rat)
	for _, x := range monic[:len(monic)-1] {
		if size := new(big.Rat).Abs(x); size.Cmp(most) > 0 {
			most = size
		}
	}
	return plus(most, whole(1))
}

// chain returns Sturm's chain of a polynomial that is not zero, each member up to a positive factor.
func (p coefs) chain() []coefs {
	chain := []coefs{p}
	for a, b := p, p.deriv(); len(b) > 0; {
		chain = append(chain, b)
		_, rest := a.divMod(b)
		if len(rest) > 0 {
			rest = rest.scaled(new(big.Rat).Inv(new(big.Rat).Abs(rest.last())))
		}
		a, b = b, rest.scaled(whole(-1))
	}
	return chain
}

// changes returns the number of changes of sign in a chain at x.
func changes(chain []coefs, x *big.Rat) int {
	count, sign := 0, 0
	for _, p := range chain {
		s := p.eval(x).Sign()
		if s == -sign && s != 0 {
			count++
		}
		if s != 0 {
			sign = s
		}
	}
	return count
}

// counter returns a function that returns the number of different roots that are greater than lo and at most hi.
func (p coefs) counter() func(lo, hi *big.Rat) int {
	chain := p.squareFree().chain()
	return func(lo, hi *big.Rat) int {
		return changes(chain, lo) - changes(chain, hi)
	}
}

func (p coefs) count(lo, hi *big.Rat) int {
	return p.counter()(lo, hi)
}

// isolate follows the chapter word by word.
func (p coefs) isolate() []api.Root {
	free := p.squareFree()
	if len(free) < 2 {
		return nil
	}
	count := free.counter()
	var found []api.Root
	var split func(lo, hi *big.Rat)
	split = func(lo, hi *big.Rat) {
		switch count(lo, hi) {
		case 0:
		case 1:
			if free.eval(hi).Sign() == 0 {
				lo = hi
			}
			found = append(found, api.Root{Poly: free.list(), Lo: fromBigRat(lo), Hi: fromBigRat(hi)})
		default:
			m := middle(lo, hi)
			split(lo, m)
			split(m, hi)
		}
	}
	bound := free.bound()
	split(neg(bound), bound)
	return found
}

// halve follows the chapter word by word.
func halve(r api.Root) api.Root {
	p, lo, hi := fromList(r.Poly), toBigRat(r.Lo), toBigRat(r.Hi)
	if lo.Cmp(hi) == 0 {
		return r
	}
	m := middle(lo, hi)
	switch {
	case p.eval(m).Sign() == 0:
		lo, hi = m, m
	case p.count(lo, m) == 1:
		hi = m
	default:
		lo = m
	}
	return api.Root{Poly: r.Poly, Lo: fromBigRat(lo), Hi: fromBigRat(hi)}
}

// refiner returns a function that halves the interval of r each time, and returns its ends. There is one change of sign between the number and the upper end.
func refiner(r api.Root) func() (lo, hi *big.Rat) {
	p, lo, hi := fromList(r.Poly), toBigRat(r.Lo), toBigRat(r.Hi)
	top := p.eval(hi).Sign()
	return func() (*big.Rat, *big.Rat) {
		if lo.Cmp(hi) != 0 {
			m := middle(lo, hi)
			switch p.eval(m).Sign() {
			case 0:
				lo, hi = m, m
			case top:
				hi = m
			default:
				lo = m
			}
		}
		return lo, hi
	}
}

// sign returns the sign of c at the number of r.
func sign(c coefs, r api.Root) int {
	lo, hi := toBigRat(r.Lo), toBigRat(r.Hi)
	if lo.Cmp(hi) == 0 {
		return c.eval(hi).Sign()
	}
	if len(c) == 0 || c.gcd(fromList(r.Poly)).count(lo, hi) == 1 {
		return 0
	}
	count, refine := c.counter(), refiner(r)
	for lo.Cmp(hi) != 0 && count(lo, hi) > 0 {
		lo, hi = refine()
	}
	return c.eval(hi).Sign()
}

// isAt reports whether the number of r is x.
func isAt(r api.Root, x *big.Rat) bool {
	lo, hi := toBigRat(r.Lo), toBigRat(r.Hi)
	inside := lo.Cmp(x) < 0 && x.Cmp(hi) <= 0 || lo.Cmp(hi) == 0 && x.Cmp(hi) == 0
	return inside && fromList(r.Poly).eval(x).Sign() == 0
}

// equal reports whether the numbers of a and b are the same: then it is a root that the polynomials have in common, in both intervals.
func equal(a, b api.Root) bool {
	lo, hi := toBigRat(a.Lo), toBigRat(a.Hi)
	from, to := toBigRat(b.Lo), toBigRat(b.Hi)
	switch {
	case lo.Cmp(hi) == 0:
		return isAt(b, hi)
	case from.Cmp(to) == 0:
		return isAt(a, to)
	}
	if from.Cmp(lo) > 0 {
		lo = from
	}
	if to.Cmp(hi) < 0 {
		hi = to
	}
	return lo.Cmp(hi) < 0 && fromList(a.Poly).gcd(fromList(b.Poly)).count(lo, hi) == 1
}

// compare returns the order of the numbers of a and b.
func compare(a, b api.Root) int {
	if equal(a, b) {
		return 0
	}
	refineA, refineB := refiner(a), refiner(b)
	loA, hiA := toBigRat(a.Lo), toBigRat(a.Hi)
	loB, hiB := toBigRat(b.Lo), toBigRat(b.Hi)
	for {
		// Of a Root that is no point, the upper end is not its number.
		switch {
		case hiA.Cmp(loB) <= 0:
			return -1
		case hiB.Cmp(loA) <= 0:
			return 1
		}
		loA, hiA = refineA()
		loB, hiB = refineB()
	}
}
