package poly_test

import (
	"maps"
	"math/big"
	"slices"
	"testing"

	"isochrone/api"
	"isochrone/poly"
)

func TestRing(t *testing.T) {
	for _, c := range []struct {
		n                              int
		p, q, sum, difference, product string
	}{
		{0, "0", "0", "0", "0", "0"}, {0, "2", "1/2", "5/2", "3/2", "1"}, {0, "2", "-2", "0", "4", "-4"}, {8, "0", "0", "0", "0", "0"}, {2, "0", "1*x0", "1*x0", "-1*x0", "0"}, {2, "1*x0", "0", "1*x0", "1*x0", "0"},
		{2, "1*x0", "1*x1", "1*x0 + 1*x1", "1*x0 + -1*x1", "1*x0*x1"}, {2, "1*x1", "1*x0", "1*x0 + 1*x1", "-1*x0 + 1*x1", "1*x0*x1"}, {1, "1*x0 + 1", "1*x0 + -1", "2*x0", "2", "1*x0^2 + -1"},
		{1, "1*x0^2 + 1*x0 + 1", "1*x0 + -1", "1*x0^2 + 2*x0", "1*x0^2 + 2", "1*x0^3 + -1"}, {2, "1*x0 + 1*x1", "1*x0 + -1*x1", "2*x0", "2*x1", "1*x0^2 + -1*x1^2"},
		{2, "1*x0^2 + 1*x0*x1 + 1*x1^2", "1*x0^2 + -1*x0*x1 + 1*x1^2", "2*x0^2 + 2*x1^2", "2*x0*x1", "1*x0^4 + 1*x0^2*x1^2 + 1*x1^4"},
		{3, "1/2*x0 + 1/3*x1^2 + 1/4*x2", "1/2*x0 + -1/3*x1^2 + 2", "1*x0 + 1/4*x2 + 2", "2/3*x1^2 + 1/4*x2 + -2", "1/4*x0^2 + 1/8*x0*x2 + 1*x0 + -1/9*x1^4 + -1/12*x1^2*x2 + 2/3*x1^2 + 1/2*x2"},
		{8, "1*x7^20", "1*x0^20", "1*x0^20 + 1*x7^20", "-1*x0^20 + 1*x7^20", "1*x0^20*x7^20"}, {1, "3/4*x0", "8/9", "3/4*x0 + 8/9", "3/4*x0 + -8/9", "2/3*x0"},
		{2, "1*x0 + 1*x1^39", "1*x0", "2*x0 + 1*x1^39", "1*x1^39", "1*x0^2 + 1*x0*x1^39"}, {1, "4294967295*x0", "1*x0", "4294967296*x0", "4294967294*x0", "4294967295*x0^2"},
	} {
		p, q := read(c.n, c.p), read(c.n, c.q)
		what := "of " + c.p + " and " + c.q
		got, e := poly.Add(p, q)
		same(t, "Add "+what, got, e, read(c.n, c.sum), api.OK)
		got, e = poly.Sub(p, q)
		same(t, "Sub "+what, got, e, read(c.n, c.difference), api.OK)
		got, e = poly.Mul(p, q)
		same(t, "Mul "+what, got, e, read(c.n, c.product), api.OK)
	}
}

func TestScale(t *testing.T) {
	for _, c := range []struct{ p, c, want string }{
		{"0", "0", "0"}, {"0", "5/7", "0"}, {"1*x0 + 2*x1 + 3", "0", "0"}, {"1*x0 + 2*x1 + 3", "1", "1*x0 + 2*x1 + 3"}, {"1*x0 + 2*x1 + 3", "-1/2", "-1/2*x0 + -1*x1 + -3/2"}, {"3/4*x0^2*x1 + -5", "4/3", "1*x0^2*x1 + -20/3"},
	} {
		got, e := poly.Scale(read(2, c.p), number(c.c))
		same(t, "Scale of "+c.p+" by "+c.c, got, e, read(2, c.want), api.OK)
	}
	// A factor may be longer than a coefficient.
	long := power(2 * maxBits)
	got, e := poly.Scale(read(2, "0"), fromBigRat(long))
	same(t, "Scale of zero by a long number", got, e, api.Poly{N: 2}, api.OK)
	got, e = poly.Scale(monomial(power(1-maxBits), 3).poly(2), fromBigRat(power(maxBits+5)))
	same(t, "Scale by a long number that cancels out", got, e, monomial(power(6), 3).poly(2), api.OK)
	got, e = poly.Scale(read(2, "1*x0"), fromBigRat(power(maxBits-1)))
	same(t, "Scale to 200 words", got, e, monomial(power(maxBits-1), 1).poly(2), api.OK)
	got, e = poly.Scale(read(2, "2*x0"), fromBigRat(power(maxBits-1)))
	fails(t, "Scale to 201 words in Num", got, e, api.ErrLimit)
	got, e = poly.Scale(read(2, "3*x0 + 1/2"), fromBigRat(power(1-maxBits)))
	fails(t, "Scale to 201 words in Den", got, e, api.ErrLimit)
	for _, c := range invalidNumbers() {
		for _, p := range []api.Poly{read(2, "1*x0"), {N: 2}, {N: -1}} {
			got, e := poly.Scale(p, c)
			fails(t, "Scale by an invalid number", got, e, api.ErrForm)
		}
	}
	for what, p := range invalid() {
		got, e := poly.Scale(p, number("1"))
		fails(t, "Scale of "+what, got, e, api.ErrForm)
	}
}

func TestPow(t *testing.T) {
	for _, c := range []struct {
		n    int
		p    string
		k    int
		want string
	}{
		{0, "0", 0, "1"}, {3, "0", 0, "1"}, {3, "0", 1, "0"}, {3, "0", 40, "0"}, {0, "-1/2", 3, "-1/8"}, {2, "1", 40, "1"}, {2, "-1", 39, "-1"}, {2, "5*x0 + 1", 0, "1"}, {2, "5*x0 + 1", 1, "5*x0 + 1"},
		{1, "1*x0", 40, "1*x0^40"}, {1, "1*x0^20", 2, "1*x0^40"}, {2, "1*x0 + 1*x1", 2, "1*x0^2 + 2*x0*x1 + 1*x1^2"}, {1, "1*x0 + -1", 3, "1*x0^3 + -3*x0^2 + 3*x0 + -1"}, {2, "1/2*x0*x1^3", 10, "1/1024*x0^10*x1^30"},
		{8, "1*x7^8", 5, "1*x7^40"},
	} {
		got, e := poly.Pow(read(c.n, c.p), c.k)
		same(t, "a power of "+c.p, got, e, read(c.n, c.want), api.OK)
	}
	p := parse("1*x0 + 1*x1 + -1/3*x2 + 2")
	for k := range 13 {
		got, e := poly.Pow(p.poly(3), k)
		same(t, "a power of 4 terms", got, e, p.pow(k).poly(3), api.OK)
	}
	got, e := poly.Pow(read(2, "1*x0 + 1*x1"), 40)
	same(t, "the highest power", got, e, parse("1*x0 + 1*x1").pow(40).poly(2), api.OK)
	for _, k := range []int{-1, 41, 1 << 40, -1 << 63} {
		for _, p := range []string{"0", "1", "1*x0^40"} {
			got, e := poly.Pow(read(2, p), k)
			fails(t, "a power out of range", got, e, api.ErrRange)
		}
	}
	for what, p := range invalid() {
		for _, k := range []int{0, 1, -1, 41} {
			got, e := poly.Pow(p, k)
			fails(t, "a power of "+what, got, e, api.ErrForm)
		}
	}
}

func TestPowLimits(t *testing.T) {
	for _, c := range []struct {
		what string
		p    table
		n, k int
		e    api.Errno
	}{
		{"degree 40", parse("1*x0^8"), 1, 5, api.OK}, {"a degree above 40", parse("1*x0^8 + 1"), 1, 6, api.ErrLimit}, {"a degree above 40 by little", parse("1*x0^3*x1^4"), 2, 6, api.ErrLimit}, {"a constant of 200 words", monomial(power(639)), 1, 10, api.OK}, {"a constant of 201 words", monomial(power(640)), 1, 10, api.ErrLimit},
		{"a fraction of 200 words", monomial(power(-639), 1), 1, 10, api.OK}, {"a fraction of 201 words", monomial(power(-640), 1), 1, 10, api.ErrLimit}, {"3003 terms", dense(8, 1), 8, 6, api.OK}, {"6435 terms", dense(8, 1), 8, 7, api.ErrLimit}, {"far more terms", dense(8, 1), 8, 40, api.ErrLimit},
		{"the power 1 of many terms", filled(api.MaxTerms), 8, 1, api.OK}, {"the power 0 of many terms", filled(api.MaxTerms), 8, 0, api.OK}, {"the square of many terms", filled(api.MaxTerms), 8, 2, api.ErrLimit},
	} {
		got, e := poly.Pow(c.p.poly(c.n), c.k)
		if e != c.e || e != api.OK && !equal(got, api.Poly{}) {
			t.Errorf("Pow to %s is %s, %d", c.what, brief(got), e)
		}
	}
}

// ringPairs are the functions of two polynomials that return one.
func ringPairs() map[string]func(p, q api.Poly) (api.Poly, api.Errno) {
	return map[string]func(p, q api.Poly) (api.Poly, api.Errno){
		"Add": poly.Add, "Sub": poly.Sub, "Mul": poly.Mul, "Divide": poly.Divide,
		"Subst": func(p, q api.Poly) (api.Poly, api.Errno) { return poly.Subst(p, 0, q) },
	}
}

func TestPairErrors(t *testing.T) {
	for name, f := range ringPairs() {
		for what, p := range invalid() {
			for _, q := range []api.Poly{partner(p), {N: partner(p).N}, read(5, "1"), p} {
				got, e := f(p, q)
				fails(t, name+" of "+what, got, e, api.ErrForm)
				got, e = f(q, p)
				fails(t, name+" with "+what+" behind", got, e, api.ErrForm)
			}
		}
		for _, c := range [][2]api.Poly{{{N: 0}, {N: 1}}, {{N: 8}, {N: 7}}, {read(1, "1"), read(2, "1")}, {read(2, "1*x0"), read(3, "1*x0")}, {read(2, "1*x0"), {N: 3}}} {
			got, e := f(c[0], c[1])
			fails(t, name+" of polynomials in different variables", got, e, api.ErrRange)
			got, e = f(c[1], c[0])
			fails(t, name+" of polynomials in different variables", got, e, api.ErrRange)
		}
	}
}

func TestDegreeLimit(t *testing.T) {
	for _, c := range []struct {
		p, q string
		e    api.Errno
	}{
		{"1*x0^20 + 1", "1*x0^20 + 1", api.OK}, {"1*x0^20 + 1", "1*x0^21 + 1", api.ErrLimit}, {"1*x0^20", "1*x1^20", api.OK}, {"1*x0^20", "1*x1^21", api.ErrLimit}, {"1*x0^40", "1*x0^40", api.ErrLimit}, {"1*x0^40", "3", api.OK}, {"1*x0^40", "0", api.OK},
		{"1*x0 + 1*x1^40", "1*x0 + 5", api.ErrLimit}, {"1*x0*x1 + 1*x1^39 + 1", "1*x0 + 1*x1", api.OK}, {"1*x0*x1 + 1*x1^39 + 1", "1*x0 + 1*x1^2", api.ErrLimit},
	} {
		p, q := parse(c.p), parse(c.q)
		want := api.Poly{}
		if c.e == api.OK {
			want = p.times(q).poly(2)
		}
		got, e := poly.Mul(p.poly(2), q.poly(2))
		same(t, "Mul of "+c.p+" and "+c.q, got, e, want, c.e)
		got, e = poly.Mul(q.poly(2), p.poly(2))
		same(t, "Mul of "+c.q+" and "+c.p, got, e, want, c.e)
	}
}

func TestTermsLimit(t *testing.T) {
	most := filled(api.MaxTerms)
	other := key{0, 0, 0, 0, 0, 0, 0, 40}
	first := slices.MaxFunc(slices.Collect(maps.Keys(most)), func(a, b key) int { return slices.Compare(a[:], b[:]) })
	extra := monomial(big.NewRat(1, 1), other[:]...)
	instead := extra.plus(monomial(new(big.Rat).Neg(most[first]), first[:]...))
	for _, c := range []struct {
		what string
		q    table
		e    api.Errno
	}{
		{"a term that is there", monomial(big.NewRat(1, 1), first[:]...), api.OK}, {"zero", table{}, api.OK}, {"a term more", extra, api.ErrLimit}, {"a term in the place of another", instead, api.OK}, {"itself", most, api.OK},
	} {
		want := api.Poly{}
		if c.e == api.OK {
			want = most.plus(c.q).poly(8)
		}
		got, e := poly.Add(most.poly(8), c.q.poly(8))
		same(t, "Add of "+c.what, got, e, want, c.e)
		got, e = poly.Add(c.q.poly(8), most.poly(8))
		same(t, "Add to "+c.what, got, e, want, c.e)
		got, e = poly.Sub(most.poly(8), c.q.scaled(big.NewRat(-1, 1)).poly(8))
		same(t, "Sub of "+c.what, got, e, want, c.e)
	}
	got, e := poly.Mul(dense(8, 4).poly(8), dense(8, 2).poly(8))
	same(t, "Mul to 3003 terms", got, e, dense(8, 4).times(dense(8, 2)).poly(8), api.OK)
	got, e = poly.Mul(dense(8, 4).poly(8), dense(8, 3).poly(8))
	fails(t, "Mul to 6435 terms", got, e, api.ErrLimit)
	got, e = poly.Mul(most.poly(8), most.poly(8))
	fails(t, "the square of a polynomial with MaxTerms terms", got, e, api.ErrLimit)
	got, e = poly.Mul(most.poly(8), read(8, "-3/2*x7"))
	same(t, "a multiple of a polynomial with MaxTerms terms", got, e, most.times(parse("-3/2*x7")).poly(8), api.OK)
}

func TestCoefficientLimit(t *testing.T) {
	top, one := power(maxBits-1), power(0)
	for _, c := range []struct {
		what string
		p, q table
		e    api.Errno
	}{
		{"the longest", monomial(top, 1), monomial(new(big.Rat).Sub(top, one), 1), api.OK}, {"too long", monomial(top, 1), monomial(top, 1), api.ErrLimit}, {"too long below the first term", parse("1*x0^2").plus(monomial(top, 1)), monomial(top, 1), api.ErrLimit},
		{"apart", monomial(top, 1), monomial(top, 2), api.OK}, {"opposite", monomial(top, 1), monomial(new(big.Rat).Neg(top), 1), api.OK}, {"too long in Den", monomial(power(1-maxBits), 1), monomial(big.NewRat(1, 3), 1), api.ErrLimit}, {"the longest in Den", monomial(power(2-maxBits), 1), monomial(power(1-maxBits), 1), api.OK},
	} {
		want := api.Poly{}
		if c.e == api.OK {
			want = c.p.plus(c.q).poly(2)
		}
		got, e := poly.Add(c.p.poly(2), c.q.poly(2))
		same(t, "Add of "+c.what, got, e, want, c.e)
		got, e = poly.Sub(c.p.poly(2), c.q.scaled(big.NewRat(-1, 1)).poly(2))
		same(t, "Sub of "+c.what, got, e, want, c.e)
	}
	for _, c := range []struct {
		what string
		p, q table
		e    api.Errno
	}{
		{"the longest", monomial(power(3200), 1), monomial(power(3199), 1), api.OK}, {"too long", monomial(power(3200), 1), monomial(power(3200), 1), api.ErrLimit}, {"the longest in Den", monomial(power(-3200), 1), monomial(power(-3199), 1), api.OK}, {"too long in Den", monomial(power(-3200), 1), monomial(power(-3200), 1), api.ErrLimit},
		{"inverse", monomial(top, 1), monomial(power(1-maxBits), 1), api.OK}, {"cancelling in the middle", monomial(top, 1).plus(monomial(top, 0)), parse("1*x0 + -1"), api.OK}, {"too long in the middle", monomial(top, 1).plus(monomial(top, 0)), parse("1*x0 + 1"), api.ErrLimit},
		{"too long in the end", parse("1*x0").plus(monomial(top)), parse("1*x0 + 2"), api.ErrLimit}, {"long but cancelling", monomial(power(3300), 1).plus(monomial(power(3300), 0, 1)), monomial(power(3300), 1).plus(monomial(new(big.Rat).Neg(power(3300)), 0, 1)), api.ErrLimit},
	} {
		want := api.Poly{}
		if c.e == api.OK {
			want = c.p.times(c.q).poly(2)
		}
		got, e := poly.Mul(c.p.poly(2), c.q.poly(2))
		same(t, "Mul of "+c.what, got, e, want, c.e)
		got, e = poly.Mul(c.q.poly(2), c.p.poly(2))
		same(t, "Mul, backwards, of "+c.what, got, e, want, c.e)
	}
}

// cancelling returns two valid polynomials with a valid product, in which many products of terms with the same monomial cancel out: their sum has far more than MaxWords words on the way.
func cancelling(s *source) (p, q table) {
	const pairs = 24
	p, q = table{}, table{}
	differences := map[key]bool{}
	var chosen []key
	for len(chosen) < 2*pairs {
		var m key
		for i := range m {
			m[i] = s.upTo(3)
		}
		fresh := map[key]bool{}
		for _, k := range chosen {
			fresh[minus(m, k)], fresh[minus(k, m)] = true, true
		}
		if len(fresh) < 2*len(chosen) || slices.ContainsFunc(slices.Collect(maps.Keys(fresh)), func(d key) bool { return differences[d] }) {
			continue
		}
		for d := range fresh {
			differences[d] = true
		}
		chosen = append(chosen, m)
	}
	slices.SortFunc(chosen, func(a, b key) int { return slices.Compare(a[:], b[:]) })
	for i := range pairs {
		c := s.long(200)
		p.add(chosen[i], c)
		p.add(chosen[pairs+i], new(big.Rat).Neg(c))
	}
	for _, m := range chosen {
		q.add(minus(key{3, 3, 3, 3, 3, 3, 3, 3}, m), big.NewRat(1, 1))
	}
	return p, q
}

func minus(a, b key) key {
	for i := range a {
		a[i] -= b[i]
	}
	return a
}

func TestNumbersOnTheWayOfMul(t *testing.T) {
	s := source(7)
	p, q := cancelling(&s)
	if _, found := p.times(q)[key{3, 3, 3, 3, 3, 3, 3, 3}]; found {
		t.Fatal("the products do not cancel out")
	}
	got, e := poly.Mul(p.poly(8), q.poly(8))
	same(t, "Mul of the polynomials whose products cancel out", got, e, p.times(q).poly(8), api.OK)
	back, e := poly.Divide(got, q.poly(8))
	same(t, "Divide by the second one", back, e, p.poly(8), api.OK)
	back, e = poly.Divide(got, p.poly(8))
	same(t, "Divide by the first one", back, e, q.poly(8), api.OK)
}

func TestRingAgainstTables(t *testing.T) {
	s := source(1)
	for round := range 400 {
		n := round % 9
		p, q := s.sparse(n, s.upTo(8), 40/max(2*n, 2)), s.sparse(n, s.upTo(8), 40/max(2*n, 2))
		a, b := p.poly(n), q.poly(n)
		got, e := poly.Add(a, b)
		same(t, "Add of "+brief(a)+" and "+brief(b), got, e, p.plus(q).poly(n), api.OK)
		got, e = poly.Sub(a, b)
		same(t, "Sub of "+brief(a)+" and "+brief(b), got, e, p.plus(q.scaled(big.NewRat(-1, 1))).poly(n), api.OK)
		got, e = poly.Mul(a, b)
		same(t, "Mul of "+brief(a)+" and "+brief(b), got, e, p.times(q).poly(n), api.OK)
		c := s.fraction()
		got, e = poly.Scale(a, fromBigRat(c))
		same(t, "Scale of "+brief(a), got, e, p.scaled(c).poly(n), api.OK)
		if is, e := poly.Equal(a, b); is != equal(a, b) || e != api.OK {
			t.Errorf("Equal of %s and %s is %t, %d", brief(a), brief(b), is, e)
		}
	}
}
