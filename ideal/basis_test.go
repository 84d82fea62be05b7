package ideal_test

import (
	"math/big"
	"testing"

	"isochrone/api"
	"isochrone/ideal"
)

func TestBasis(t *testing.T) {
	for _, c := range []struct {
		n          int
		gens, want []string
	}{
		{1, []string{"2*x0 + 4"}, []string{"1*x0 + 2"}},
		{1, []string{"1*x0^2 + -1", "1*x0^3 + -1"}, []string{"1*x0 + -1"}},
		{1, []string{"6*x0^3 + -6*x0", "4*x0^3 + 4*x0^2", "-1/3*x0^3 + -2/3*x0^2 + -1/3*x0"}, []string{"1*x0^2 + 1*x0"}},
		{1, []string{"1*x0^2 + -1", "1*x0 + -2"}, []string{"1"}},
		{1, []string{"0", "3*x0^3"}, []string{"1*x0^3"}},
		{1, []string{"0", "0", "0"}, nil},
		{2, []string{"0"}, nil},
		{3, []string{"0", "0"}, nil},
		{1, []string{"-5/7"}, []string{"1"}},
		{2, []string{"7"}, []string{"1"}},
		{3, []string{"0", "7", "1*x0"}, []string{"1"}},
		{2, []string{"1*x0 + 1", "1*x0"}, []string{"1"}},
		{2, []string{"1*x0*x1 + -1", "1*x0"}, []string{"1"}},
		{3, []string{"1*x0*x1 + -1", "1*x1*x2 + -1", "1*x0 + -1*x2 + 1"}, []string{"1"}},
		{2, []string{"3*x0^2*x1 + -6*x1^2 + 1/2"}, []string{"1*x0^2*x1 + -2*x1^2 + 1/6"}},
		{2, []string{"1*x0^2 + 1*x1^2 + -1", "1*x0 + -1*x1"}, []string{"1*x0 + -1*x1", "1*x1^2 + -1/2"}},
		{2, []string{"1*x0 + -1*x1", "1*x0^2 + 1*x1^2 + -1"}, []string{"1*x0 + -1*x1", "1*x1^2 + -1/2"}},
		{2, []string{"2*x0 + -2*x1", "-1*x0 + 1*x1", "1/3*x0 + -1/3*x1"}, []string{"1*x0 + -1*x1"}},
		{2, []string{"1*x0^3 + 5*x1", "1*x0^3 + 5*x1", "1*x0^3 + 5*x1"}, []string{"1*x0^3 + 5*x1"}},
		{2, []string{"1*x0*x1", "1*x0^2", "1*x1^2"}, []string{"1*x0^2", "1*x0*x1", "1*x1^2"}},
		{2, []string{"1*x0^2*x1", "1*x0^2*x1 + 1*x0*x1^2"}, []string{"1*x0^2*x1", "1*x0*x1^2"}},
		{2, []string{"1*x0^2 + -1*x1^2", "1*x0^2 + 2*x0*x1 + 1*x1^2"}, []string{"1*x0^2 + -1*x1^2", "1*x0*x1 + 1*x1^2"}},
		{2, []string{"1*x0^2 + -1*x1^3", "1*x1^2 + -1*x0^3"}, []string{"1*x0^2 + -1*x1^3", "1*x0*x1^2 + -1*x1^6", "1*x1^7 + -1*x1^2"}},
		{3, []string{"1*x0^2 + -1*x1", "1*x0*x1 + -1*x2"}, []string{"1*x0^2 + -1*x1", "1*x0*x1 + -1*x2", "1*x0*x2 + -1*x1^2", "1*x1^3 + -1*x2^2"}},
		{3, []string{"1*x0^2 + -1*x0", "1*x1^2 + -1*x1", "1*x2^2 + -1*x2"}, []string{"1*x0^2 + -1*x0", "1*x1^2 + -1*x1", "1*x2^2 + -1*x2"}},
		{3, []string{"1*x0^2 + 1*x1 + 1*x2 + -1", "1*x0 + 1*x1^2 + 1*x2 + -1", "1*x0 + 1*x1 + 1*x2^2 + -1"}, []string{
			"1*x0 + 1*x1 + 1*x2^2 + -1", "1*x1^2 + -1*x1 + -1*x2^2 + 1*x2", "1*x1*x2^2 + 1/2*x2^4 + -1/2*x2^2", "1*x2^6 + -4*x2^4 + 4*x2^3 + -1*x2^2"}},
		{3, []string{"1*x2 + -1*x1*x0", "1*x1 + -1*x2*x0", "1*x0 + -1*x1*x2"}, []string{
			"1*x0 + -1*x1*x2", "1*x1^2 + -1*x2^2", "1*x1*x2^2 + -1*x1", "1*x2^3 + -1*x2"}},
	} {
		got, e := ideal.Basis(readAll(c.n, c.gens...))
		sameList(t, "Basis", got, e, readAll(c.n, c.want...), api.OK)
	}
	got, e := ideal.Basis(nil)
	sameList(t, "Basis of no generators", got, e, nil, api.OK)
	got, e = ideal.Basis([]api.Poly{})
	sameList(t, "Basis of no generators", got, e, nil, api.OK)
}

// TestBasisOfManyIdeals compares with Buchberger's algorithm as it stands in books: there is only one reduced basis.
func TestBasisOfManyIdeals(t *testing.T) {
	s := source(61)
	for round := range 600 {
		n := 1 + round%3
		gens := s.generators(n, 1+s.upTo(2))
		want := polysOf(n, naiveBasis(tablesOf(gens)))
		got, e := ideal.Basis(gens)
		sameList(t, "Basis of "+show(gens...), got, e, want, api.OK)
	}
}

// TestLongBasis has bases with coefficients of many words. With leading terms x0, x1 and x2^8, or x0 and x1^9, the remainders have as many dimensions as the generators' common zeros, which are 8 or 9; so such a complete basis of an ideal with the generators in it has only members of their ideal.
func TestLongBasis(t *testing.T) {
	for _, c := range []struct {
		n, above, below int
		first           []string
		words           int
	}{{2, 64, 0, []string{"1*x0", "1*x1^9"}, 50}, {2, 64, 16, []string{"1*x0", "1*x1^9"}, 100}, {3, 32, 0, []string{"1*x0", "1*x1", "1*x2^8"}, 50}, {3, 63, 0, []string{"1*x0", "1*x1", "1*x2^8"}, 100}} {
		s := source(62)
		gens := make([]api.Poly, c.n)
		for i := range gens {
			gens[i] = s.dense(c.n, degreeFor(c.n), func() *big.Rat { return s.long(c.above, c.below) })
		}
		basis := mustList(t)(ideal.Basis(gens))
		if words := longest(basis...); words < c.words {
			t.Errorf("the basis has no coefficient of more than %d words", words)
		}
		for i, p := range basis {
			if p.N != c.n || !equal(api.Poly{N: c.n, Terms: p.Terms[:1]}, read(c.n, c.first[i])) {
				t.Errorf("polynomial %d begins in another way than with %s", i, c.first[i])
			}
			for _, m := range p.Terms[1:] {
				for _, first := range c.first {
					if tableOf(read(c.n, first)).first().divides(tableOf(api.Poly{N: c.n, Terms: []api.Mono{m}}).first()) {
						t.Errorf("polynomial %d has a multiple of %s", i, first)
					}
				}
			}
		}
		for _, g := range gens {
			if len(tableOf(g).remainder(tablesOf(basis))) > 0 {
				t.Errorf("a generator in %d variables is not in the ideal of the basis", c.n)
			}
		}
	}
}

// TestUnluckyPrimes has ideals whose bases change, modulo a prime that is popular with those who compute modulo primes.
func TestUnluckyPrimes(t *testing.T) {
	for _, c := range []struct {
		n          int
		gens, want []string
	}{
		{1, []string{"2305843009213693951*x0 + 1"}, []string{"1*x0 + 1/2305843009213693951"}},
		{1, []string{"1*x0 + -2305843009213693951", "1*x0^2 + 1"}, []string{"1"}},
		{1, []string{"1*x0^2 + 1*x0", "1*x0^2 + 2305843009213693952*x0"}, []string{"1*x0"}},
		{2, []string{"1*x1^2 + 2305843009213693951*x0"}, []string{"1*x0 + 1/2305843009213693951*x1^2"}},
		{2, []string{"1*x0^2 + 1*x1", "1*x0^2 + 2305843009213693952*x1"}, []string{"1*x0^2", "1*x1"}},
		{3, []string{"1*x2^2 + 1*x0 + 2147483648*x1", "1*x1^2 + 1073741824*x0 + 1*x1"}, []string{"1*x0 + 2147483648*x1 + 1*x2^2", "1*x1^2 + -2305843009213693951*x1 + -1073741824*x2^2"}},
		{3, []string{"1*x2^2 + 1*x0 + 2147483648*x1", "1*x0*x2 + 1073741824*x0 + 1*x1"}, []string{"1*x0 + 2147483648*x1 + 1*x2^2", "1*x1*x2 + 2305843009213693951/2147483648*x1 + 1/2147483648*x2^3 + 1/2*x2^2"}},
		{2, []string{"4294967291*x0^2 + 2147483647*x1", "18446744073709551557*x1^2 + 1"}, []string{"1*x0^2 + 2147483647/4294967291*x1", "1*x1^2 + 1/18446744073709551557"}},
	} {
		gens := readAll(c.n, c.gens...)
		got, e := ideal.Basis(gens)
		sameList(t, "Basis of "+show(gens...), got, e, readAll(c.n, c.want...), api.OK)
		for _, g := range gens {
			cofactors, e := ideal.Cofactors(g, gens)
			if e != api.OK {
				t.Fatalf("Cofactors of %s: error %d", show(g), e)
			}
			ok, e := ideal.Checks(g, gens, cofactors)
			sameValue(t, "Checks", ok, e, true, api.OK)
		}
	}
}
