package poly

import (
	"cmp"

	"isochrone/api"
	"isochrone/sorted"
	"isochrone/wide"
)

// maxWords is the number of words that Num and Den of a coefficient may have.
const maxWords = 200

// monomial has the exponents of all variables, a byte each, that of variable 0 in the highest one. So monomials are in order as their numbers are, and a product of monomials is a sum of numbers: an exponent in it, of two that are at most MaxDegree, does not leave its byte.
type monomial uint64

const (
	exponentBits = 8
	exponentMask = 1<<exponentBits - 1
)

// place returns where the exponent of variable i stands.
func place(i int) int {
	return exponentBits * (api.MaxVars - 1 - i)
}

// power returns the monomial of variable i to the power k.
func power(i, k int) monomial {
	return monomial(k) << place(i)
}

func pack(exps []int) monomial {
	m := monomial(0)
	for i, k := range exps {
		m += power(i, k)
	}
	return m
}

func (m monomial) unpack(n int) []int {
	exps := make([]int, n)
	for i := range exps {
		exps[i] = m.exponent(i)
	}
	return exps
}

func (m monomial) exponent(i int) int {
	return int(m >> place(i) & exponentMask)
}

func (m monomial) degree() int {
	total := 0
	for i := range api.MaxVars {
		total += m.exponent(i)
	}
	return total
}

// divides reports whether no exponent of m is greater than that of k.
func (m monomial) divides(k monomial) bool {
	for i := range api.MaxVars {
		if m.exponent(i) > k.exponent(i) {
			return false
		}
	}
	return true
}

// term is a term of a polynomial. On the way to a result, a polynomial is a slice of terms in descending order, none of them zero; neither their number nor their coefficients have a limit.
type term struct {
	exps monomial
	coef wide.Num
}

// fits reports whether t may be a term of a valid polynomial.
func (t term) fits() bool {
	return t.exps.degree() <= api.MaxDegree && t.coef.Fits(maxWords)
}

// load takes a valid polynomial.
func load(p api.Poly) []term {
	terms := make([]term, len(p.Terms))
	for i, m := range p.Terms {
		terms[i] = term{pack(m.Exps), wide.Of(m.Coef)}
	}
	return terms
}

// store returns the polynomial in n variables if it is valid.
func store(n int, terms []term) (api.Poly, api.Errno) {
	if len(terms) > api.MaxTerms {
		return api.Poly{}, api.ErrLimit
	}
	p := api.Poly{N: n}
	for _, t := range terms {
		if !t.fits() {
			return api.Poly{}, api.ErrLimit
		}
		p.Terms = append(p.Terms, api.Mono{Exps: t.exps.unpack(n), Coef: t.coef.Rat()})
	}
	return p, api.OK
}

// sum returns p + q.
func sum(p, q []term) []term {
	order := func(s, t term) int { return cmp.Compare(t.exps, s.exps) }
	join := func(s, t term) (term, bool) {
		coef := s.coef.Add(t.coef)
		return term{s.exps, coef}, !coef.IsZero()
	}
	return sorted.Merge(p, q, order, join)
}

// scaled returns p times c.
func scaled(p []term, c wide.Num) []term {
	if c.IsZero() {
		return nil
	}
	multiple := make([]term, len(p))
	for i, t := range p {
		multiple[i] = term{t.exps, t.coef.Mul(c)}
	}
	return multiple
}
