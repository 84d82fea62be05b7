package ideal_test

import (
	"math/big"
	"testing"

	"isochrone/api"
	"isochrone/ideal"
	"isochrone/poly"
)

func TestReduce(t *testing.T) {
	circle := []string{"1*x0^2 + 1*x1^2 + -1", "1*x0 + -1*x1"}
	for _, c := range []struct {
		n       int
		p, want string
		gens    []string
	}{
		{2, "1*x0^2 + 1*x0*x1", "1", circle},
		{2, "1*x0", "1*x1", circle},
		{2, "1*x1^5 + 3", "1/4*x1 + 3", circle},
		{2, "1*x0^6 + -1*x1^6", "0", circle},
		{2, "0", "0", circle},
		{2, "7/3", "7/3", circle},
		{1, "1*x0^6", "64", []string{"1*x0 + -2"}},
		{1, "1*x0^6", "0", []string{"5"}},
		{1, "1*x0^6 + 1*x0^2", "1*x0^6 + 1*x0^2", []string{"0"}},
		{1, "1*x0^5 + 1*x0^2", "2*x0^2", []string{"1*x0^3 + -1", "0"}},
		{2, "1*x0^2*x1^3 + 1*x0", "1*x1^5 + 1*x0", []string{"1*x0^2 + -1*x1^2"}},
		{3, "1*x0^3 + 1*x0^2*x1^2", "1*x2^2 + 1*x2", []string{"1*x0^2 + -1*x1", "1*x0*x1 + -1*x2"}},
		{3, "1*x0 + 1*x1 + 1*x2", "-1*x2^2 + 1*x2 + 1", []string{"1*x0^2 + 1*x1 + 1*x2 + -1", "1*x0 + 1*x1^2 + 1*x2 + -1", "1*x0 + 1*x1 + 1*x2^2 + -1"}},
	} {
		gens := readAll(c.n, c.gens...)
		got, e := ideal.Reduce(read(c.n, c.p), gens)
		same(t, "Reduce of "+c.p+" modulo "+show(gens...), got, e, read(c.n, c.want), api.OK)
	}
}

// TestReduceWithoutGenerators: modulo the ideal of zero, a polynomial is its own remainder.
func TestReduceWithoutGenerators(t *testing.T) {
	s := source(63)
	for n := range api.MaxVars + 1 {
		p := s.dense(n, 6, func() *big.Rat { return s.long(64, 64) })
		got, e := ideal.Reduce(p, nil)
		same(t, "Reduce without generators", got, e, p, api.OK)
		zero := api.Poly{N: n}
		got, e = ideal.Reduce(zero, nil)
		same(t, "Reduce of zero without generators", got, e, zero, api.OK)
		if n >= 1 && n <= 3 {
			got, e = ideal.Reduce(p, []api.Poly{zero, zero})
			same(t, "Reduce modulo zero", got, e, p, api.OK)
		}
	}
}

// TestReduceOfMany compares with division by the reduced basis, which has only one remainder.
func TestReduceOfMany(t *testing.T) {
	s := source(64)
	for round := range 400 {
		n := 1 + round%3
		gens := s.generators(n, 1+s.upTo(2))
		basis := naiveBasis(tablesOf(gens))
		for _, p := range []api.Poly{s.sparse(n, 6, 2, s.small), s.dense(n, 1+s.upTo(5), s.small), s.member(t, gens, 6)} {
			got, e := ideal.Reduce(p, gens)
			same(t, "Reduce of "+show(p)+" modulo "+show(gens...), got, e, tableOf(p).remainder(basis).poly(n), api.OK)
		}
	}
}

// longGenerators returns two generators with two words in the numerators and one in the denominators. The seeds are chosen by the lengths of their reduced bases, of which TestLongestBasis says how they are known.
func longGenerators(seed int) []api.Poly {
	s := source(seed)
	gens := make([]api.Poly, 2)
	for i := range gens {
		p := table{}
		for degree := range 4 {
			for k := range degree + 1 {
				above := s.odd(64)
				p[key{degree - k, k}] = new(big.Rat).SetFrac(above, s.odd(29))
			}
		}
		gens[i] = p.poly(2)
	}
	return gens
}

// Seeds of longGenerators.
const (
	seedOf200Words = 7
	seedOf201Words = 8
)

// TestLongRemainder has remainders as long as they may be, and longer ones: the remainder of a multiple of x0 is that multiple of the one of x0, whose coefficients stand in the reduced basis.
func TestLongRemainder(t *testing.T) {
	gens := longGenerators(seedOf200Words)
	basis := mustList(t)(ideal.Basis(gens))
	linear := api.Poly{N: 2, Terms: basis[0].Terms[1:]}
	minus := must(t)(poly.Scale(linear, fromBigRat(big.NewRat(-1, 1))))
	got, e := ideal.Reduce(read(2, "1*x0"), gens)
	same(t, "the remainder of x0", got, e, minus, api.OK)
	if words := longest(minus); words != 200 {
		t.Fatalf("the remainder of x0 has coefficients of %d words", words)
	}
	last := 0
	for fits(minus, power(last+1)) {
		last++
	}
	if last > 62 {
		t.Fatalf("the remainder of 2^%d * x0 fits", last)
	}
	for _, factor := range []*big.Rat{power(last), power(last + 1), power(63), power(-63), new(big.Rat).Neg(power(last))} {
		want, wantErr := poly.Scale(minus, fromBigRat(factor))
		p := monomial(factor, 1, 0).poly(2)
		got, e := ideal.Reduce(p, gens)
		same(t, "the remainder of "+show(p), got, e, want, wantErr)
	}
}

// fits reports whether a multiple of p is valid.
func fits(p api.Poly, factor *big.Rat) bool {
	_, e := poly.Scale(p, fromBigRat(factor))
	return e == api.OK
}
