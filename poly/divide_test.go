package poly_test

import (
	"math/big"
	"testing"

	"isochrone/api"
	"isochrone/poly"
)

func TestDivide(t *testing.T) {
	for _, c := range []struct {
		n          int
		p, q, want string
	}{
		{0, "0", "5", "0"}, {0, "3", "-6", "-1/2"}, {2, "0", "1*x0 + 1*x1", "0"}, {8, "0", "1*x7^40", "0"}, {2, "1*x0 + 4", "2", "1/2*x0 + 2"}, {2, "1*x0 + 4", "1", "1*x0 + 4"}, {1, "1*x0^40", "1*x0^40", "1"}, {1, "1*x0^40 + 2*x0^3", "1*x0^3", "1*x0^37 + 2"},
		{1, "1*x0^2 + -1", "1*x0 + -1", "1*x0 + 1"}, {1, "1*x0^2 + -1", "-2*x0 + -2", "-1/2*x0 + 1/2"}, {1, "1*x0^3 + -1", "1*x0^2 + 1*x0 + 1", "1*x0 + -1"}, {1, "1*x0^40 + -1", "1*x0^20 + -1", "1*x0^20 + 1"}, {2, "1*x0^2 + -1*x1^2", "1*x0 + 1*x1", "1*x0 + -1*x1"}, {2, "1*x0^2 + -1*x1^2", "1*x1 + -1*x0", "-1*x0 + -1*x1"},
		{2, "1*x0*x1 + 1*x1", "1*x0 + 1", "1*x1"}, {2, "1*x0*x1 + 1*x1", "1/3*x1", "3*x0 + 3"}, {2, "1*x1^3 + -1", "1*x1 + -1", "1*x1^2 + 1*x1 + 1"}, {3, "1*x0^3 + 1*x1^3 + 1*x2^3 + -3*x0*x1*x2", "1*x0 + 1*x1 + 1*x2", "1*x0^2 + -1*x0*x1 + -1*x0*x2 + 1*x1^2 + -1*x1*x2 + 1*x2^2"},
		{2, "1*x0^2 + 2*x0*x1^20 + 1*x1^40", "1*x0 + 1*x1^20", "1*x0 + 1*x1^20"}, {8, "1*x0^20*x7^20", "3*x0^20", "1/3*x7^20"}, {2, "1*x0^2*x1 + 1*x0*x1 + 1*x0 + 1", "1*x0*x1 + 1", "1*x0 + 1"},
	} {
		got, e := poly.Divide(read(c.n, c.p), read(c.n, c.q))
		same(t, "Divide of "+c.p+" by "+c.q, got, e, read(c.n, c.want), api.OK)
	}
}

func TestDivideErrors(t *testing.T) {
	for _, c := range []struct {
		n    int
		p, q string
		e    api.Errno
	}{
		{0, "0", "0", api.ErrZero}, {0, "1", "0", api.ErrZero}, {8, "1*x0 + 1*x7", "0", api.ErrZero}, {8, "0", "0", api.ErrZero}, {1, "1", "1*x0", api.ErrExact}, {1, "1*x0", "1*x0^2", api.ErrExact}, {1, "1*x0 + 1", "1*x0", api.ErrExact}, {1, "1*x0 + 1", "1*x0 + -1", api.ErrExact},
		{1, "1*x0^40 + 1", "1*x0 + 1", api.ErrExact}, {1, "1*x0^40 + 1", "1*x0^3 + 1", api.ErrExact}, {1, "5", "1*x0 + 1", api.ErrExact}, {2, "1*x0", "1*x1", api.ErrExact}, {2, "1*x1", "1*x0", api.ErrExact}, {2, "1*x0^2", "1*x0 + 1*x1", api.ErrExact}, {2, "1*x1^2", "1*x0 + 1*x1", api.ErrExact},
		{2, "1*x0^2 + 1*x0", "1*x0*x1 + 1*x1", api.ErrExact}, {2, "1*x0^2 + 1*x1^2", "1*x0 + 1*x1", api.ErrExact}, {2, "1*x0*x1^2", "1*x0*x1 + 1*x0", api.ErrExact}, {2, "1*x0*x1 + 1*x1 + 1", "1*x0 + 1", api.ErrExact}, {2, "1*x0^40", "1*x0 + 1*x1^39", api.ErrExact}, {2, "1*x0^3 + 1*x1^3", "1*x0 + 1*x1^3", api.ErrExact},
		{8, "1*x0^40 + 1*x1^40 + 1*x2^40 + 1*x3^40 + 1*x4^40 + 1*x5^40 + 1*x6^40 + 1*x7^40", "1*x0 + 1*x1 + 1*x2 + 1*x3 + 1*x4 + 1*x5 + 1*x6 + 1*x7", api.ErrExact},
		{8, "1*x0^40 + 1*x1^40 + 1*x2^40 + 1*x3^40 + 1*x4^40 + 1*x5^40 + 1*x6^40 + 1*x7^40", "1*x7 + 1", api.ErrExact},
	} {
		got, e := poly.Divide(read(c.n, c.p), read(c.n, c.q))
		fails(t, "Divide of "+c.p+" by "+c.q, got, e, c.e)
	}
	got, e := poly.Divide(read(2, "1*x0"), api.Poly{N: 3})
	fails(t, "Divide by a zero in other variables", got, e, api.ErrRange)
}

// TestDivideModuloAPrime has polynomials that divide each other modulo the number 2^61 - 1, though not otherwise, or whose coefficients are not defined or zero modulo it.
func TestDivideModuloAPrime(t *testing.T) {
	prime := fraction("2305843009213693951")
	inverse := new(big.Rat).Inv(prime)
	for _, c := range []struct {
		n                 int
		quotient, q, rest string
		scaleQ            *big.Rat
	}{
		{1, "1*x0 + 3", "1*x0 + 1", "1", prime}, {1, "1*x0^3 + 1/2", "1*x0 + 1", "1*x0^7", prime}, {2, "1*x0 + 5*x1", "1*x0 + 1*x1", "1*x1^2", prime}, {2, "1*x0 + 5*x1", "1*x0 + 1*x1^2", "1*x0^2", prime}, {2, "1*x0 + 5*x1 + 2", "1*x0 + 1*x1^5", "1*x0^4*x1", inverse}, {3, "1*x0*x1 + 5*x2", "1*x0 + 1*x1 + 1*x2", "1*x2", inverse},
		{1, "1*x0 + 1/2305843009213693951", "1*x0 + 1", "1", prime}, {2, "2305843009213693951*x0 + 1", "1*x0 + 1*x1", "1*x1", inverse}, {2, "1*x0 + 1*x1", "1*x0 + 1/2305843009213693951*x1", "1*x1", inverse}, {2, "1*x0 + 1", "2305843009213693951*x0 + 1*x1", "1*x1", prime},
		{2, "1*x1 + 2", "1*x0*x1 + 1*x0", "1*x0*x1^2 + 1", inverse}, {2, "1*x1^3", "1*x0 + 1*x1^2", "1*x0^3 + 1*x1^9", prime},
	} {
		for _, scale := range []*big.Rat{big.NewRat(1, 1), c.scaleQ, prime, inverse} {
			quotient, q := parse(c.quotient).scaled(scale), parse(c.q)
			p := quotient.times(q)
			got, e := poly.Divide(p.poly(c.n), q.poly(c.n))
			same(t, "Divide by "+c.q, got, e, quotient.poly(c.n), api.OK)
			got, e = poly.Divide(p.poly(c.n), q.scaled(c.scaleQ).poly(c.n))
			same(t, "Divide by a multiple of "+c.q, got, e, quotient.scaled(new(big.Rat).Inv(c.scaleQ)).poly(c.n), api.OK)
			for _, factor := range []*big.Rat{prime, inverse, big.NewRat(1, 1)} {
				other := p.plus(parse(c.rest).scaled(factor))
				got, e = poly.Divide(other.poly(c.n), q.poly(c.n))
				fails(t, "Divide with a rest by "+c.q, got, e, api.ErrExact)
				got, e = poly.Divide(other.poly(c.n), q.scaled(c.scaleQ).poly(c.n))
				fails(t, "Divide with a rest by a multiple of "+c.q, got, e, api.ErrExact)
			}
		}
	}
}

// TestDivideByZerosOfShadows has divisors that are zero modulo 2^61 - 1 at the fixed values of variables in shadows.
func TestDivideByZerosOfShadows(t *testing.T) {
	for _, text := range []string{"1*x0 + -890897432235536993", "1*x0*x1 + -890897432235536993*x1", "1*x0^2 + -890897432235536993*x0"} {
		q, quotient := parse(text), parse("2*x0*x1 + 3*x1^2 + 1")
		p := q.times(quotient)
		got, e := poly.Divide(p.poly(2), q.poly(2))
		same(t, "Divide by "+text, got, e, quotient.poly(2), api.OK)
		for _, rest := range []string{"1", "1*x1", "1*x0"} {
			got, e = poly.Divide(p.plus(parse(rest)).poly(2), q.poly(2))
			fails(t, "Divide with the rest "+rest+" by "+text, got, e, api.ErrExact)
		}
	}
}

// TestDivideLimits has quotients that exist but are not valid, and rests beside them.
func TestDivideLimits(t *testing.T) {
	s := source(9)
	long := power(maxBits - 1)
	all, each := parse("1"), parse("1")
	for i := range 4 {
		var m, k key
		m[i], k[i] = 10, 1
		all = all.times(monomial(power(0), m[:]...).plus(parse("-1")))
		each = each.times(monomial(power(0), k[:]...).plus(parse("-1")))
	}
	mirror, uneven := table{}, table{}
	for k := range 20 {
		c := s.long(200)
		mirror.add(key{k}, c)
		mirror.add(key{39 - k}, c)
		uneven.add(key{k}, c)
		uneven.add(key{39 - k}, new(big.Rat).Neg(c))
	}
	for _, c := range []struct {
		what string
		n    int
		p, q table
		e    api.Errno
	}{
		{"200 words", 1, monomial(power(maxBits-2), 3), monomial(big.NewRat(1, 2), 1), api.OK}, {"201 words", 1, monomial(long, 3), monomial(big.NewRat(1, 2), 1), api.ErrLimit}, {"201 words and a rest", 1, monomial(long, 3).plus(parse("1")), monomial(big.NewRat(1, 2), 1), api.ErrExact}, {"201 words in Den", 1, monomial(power(1 - maxBits)), monomial(power(1)), api.ErrLimit},
		{"201 words below the first term", 2, parse("1*x0").plus(monomial(long, 0, 1)), parse("1/2"), api.ErrLimit}, {"10000 terms", 4, all, each, api.ErrLimit}, {"10000 terms and a rest", 4, all.plus(parse("1")), each, api.ErrExact}, {"10000 terms and a rest that is small for its prime", 4, all.plus(monomial(fraction("2305843009213693951"))), each, api.ErrExact},
		{"long sums", 1, mirror, parse("1*x0 + 1"), api.ErrLimit}, {"long sums and a rest", 1, mirror, parse("1*x0 + -1"), api.ErrExact}, {"long differences", 1, uneven, parse("1*x0 + -1"), api.ErrLimit}, {"long differences and a rest", 1, uneven, parse("1*x0 + 1"), api.ErrExact},
	} {
		got, e := poly.Divide(c.p.poly(c.n), c.q.poly(c.n))
		if e != c.e || e != api.OK && !equal(got, api.Poly{}) {
			t.Errorf("Divide to %s is %s, %d", c.what, brief(got), e)
		}
	}
}

func TestDivideAgainstProducts(t *testing.T) {
	s := source(10)
	for round := range 600 {
		n := 1 + round%8
		q := s.sparse(n, 1+s.upTo(5), 16/n)
		if len(q) == 0 {
			continue
		}
		quotient := s.sparse(n, s.upTo(7), 16/n)
		p := q.times(quotient)
		got, e := poly.Divide(p.poly(n), q.poly(n))
		same(t, "Divide by "+brief(q.poly(n)), got, e, quotient.poly(n), api.OK)
		if degree, _ := poly.Degree(q.poly(n)); degree > 0 {
			// A constant is no multiple of a polynomial of a degree above 0.
			got, e = poly.Divide(p.plus(parse("1/2")).poly(n), q.poly(n))
			fails(t, "Divide with a rest by "+brief(q.poly(n)), got, e, api.ErrExact)
		}
	}
}
