package ideal_test

import (
	"math/big"
	"testing"

	"isochrone/api"
	"isochrone/ideal"
	"isochrone/poly"
)

func TestMember(t *testing.T) {
	for _, c := range []struct {
		n    int
		p    string
		gens []string
		want bool
	}{
		{2, "1*x0^2 + -1*x1^2", []string{"1*x0 + 1*x1"}, true},
		{2, "1*x0^2 + 1*x1^2", []string{"1*x0 + 1*x1"}, false},
		{2, "1*x0 + 1*x1", []string{"1*x0^2 + -1*x1^2"}, false},
		{2, "0", []string{"1*x0 + 1*x1"}, true},
		{2, "0", []string{"0"}, true},
		{2, "1", []string{"0"}, false},
		{2, "1", []string{"0", "-3"}, true},
		{2, "1", []string{"1*x0*x1 + -1", "1*x0"}, true},
		{2, "1*x1^6 + 7", []string{"1*x0*x1 + -1", "1*x0"}, true},
		{1, "1*x0 + -1", []string{"1*x0^3 + -1", "1*x0^2 + -1"}, true},
		{1, "1*x0 + 1", []string{"1*x0^3 + -1", "1*x0^2 + -1"}, false},
		{3, "1*x0*x2 + -1*x1^2", []string{"1*x0^2 + -1*x1", "1*x0*x1 + -1*x2"}, true},
		{3, "1*x1^3 + -1*x2^2", []string{"1*x0^2 + -1*x1", "1*x0*x1 + -1*x2"}, true},
		{3, "1*x1^3 + -1*x2", []string{"1*x0^2 + -1*x1", "1*x0*x1 + -1*x2"}, false},
	} {
		gens, p := readAll(c.n, c.gens...), read(c.n, c.p)
		got, e := ideal.Member(p, gens)
		sameValue(t, "Member of "+c.p+" in "+show(gens...), got, e, c.want, api.OK)
		checkCofactors(t, p, gens, c.want)
	}
	for n := range api.MaxVars + 1 {
		zero, one := api.Poly{N: n}, read(n, "1")
		got, e := ideal.Member(zero, nil)
		sameValue(t, "Member of zero without generators", got, e, true, api.OK)
		got, e = ideal.Member(one, nil)
		sameValue(t, "Member of 1 without generators", got, e, false, api.OK)
		checkCofactors(t, zero, nil, true)
		checkCofactors(t, one, nil, false)
	}
}

// checkCofactors checks Cofactors of p, which is or is not in the ideal.
func checkCofactors(t *testing.T, p api.Poly, gens []api.Poly, isMember bool) {
	t.Helper()
	cofactors, e := ideal.Cofactors(p, gens)
	if !isMember {
		sameList(t, "Cofactors of "+show(p)+" in "+show(gens...), cofactors, e, nil, api.ErrNone)
		return
	}
	if e != api.OK || len(cofactors) != len(gens) {
		t.Errorf("Cofactors of %s in %s are %s with error %d", show(p), show(gens...), show(cofactors...), e)
		return
	}
	total := table{}
	for i, c := range cofactors {
		if !poly.Valid(c) || c.N != p.N {
			t.Errorf("cofactor %d of %s is not valid", i, show(p))
		}
		for m, x := range tableOf(c) {
			for k, y := range tableOf(gens[i]) {
				total.add(new(big.Rat).Mul(x, y), m.shifted(k, key{}))
			}
		}
	}
	if !equal(total.poly(p.N), p) {
		t.Errorf("with the cofactors %s of %s in %s, the sum is %s", show(cofactors...), show(p), show(gens...), show(total.poly(p.N)))
	}
	ok, e := ideal.Checks(p, gens, cofactors)
	sameValue(t, "Checks of the cofactors of "+show(p), ok, e, true, api.OK)
}

// TestManyMembers compares with remainders by the reduced basis, and has cofactors of sums of multiples, of powers, and of everything in the ideal of 1.
func TestManyMembers(t *testing.T) {
	s := source(65)
	for round := range 500 {
		n := 1 + round%3
		gens := s.generators(n, 1+s.upTo(2))
		basis := naiveBasis(tablesOf(gens))
		for _, p := range []api.Poly{s.member(t, gens, 6), s.sparse(n, 6, 1, s.small), s.sparse(n, 2, 3, s.small), read(n, "1*x0^6"), read(n, "1")} {
			want := len(tableOf(p).remainder(basis)) == 0
			got, e := ideal.Member(p, gens)
			sameValue(t, "Member of "+show(p)+" in "+show(gens...), got, e, want, api.OK)
			checkCofactors(t, p, gens, want)
		}
	}
}

// TestCofactorsFarUp has members of which only sums of multiples of much higher degrees are made.
func TestCofactorsFarUp(t *testing.T) {
	for _, c := range []struct {
		n    int
		p    string
		gens []string
	}{
		{3, "1", []string{"1*x0^2", "1*x0 + -1*x1^2", "1*x1*x2 + -1"}},
		{3, "1*x2^6 + 1*x0^6", []string{"1*x0^2", "1*x0 + -1*x1^2", "1*x1*x2 + -1"}},
		{2, "1", []string{"1*x0^3", "1*x0*x1^2 + -1", "3*x0^2*x1 + 1/2*x1^3"}},
		{2, "1*x1^6", []string{"1*x0^2", "1*x0 + -1*x1^3"}},
		{1, "1*x0", []string{"1*x0^3 + -2*x0^2 + 1*x0", "1*x0^3 + 1*x0"}},
	} {
		checkCofactors(t, read(c.n, c.p), readAll(c.n, c.gens...), true)
	}
}

// TestLongCofactors has cofactors with coefficients of many words, and in the end ones that are too long: their denominators have the resultant of three cubics as a factor, a number of more than 400 words here.
func TestLongCofactors(t *testing.T) {
	s := source(66)
	for _, c := range []struct {
		n, below int
		want     api.Errno
	}{{1, 0, api.OK}, {1, 64, api.OK}, {2, 0, api.OK}, {2, 64, api.ErrLimit}} {
		gens := make([]api.Poly, 3)
		for i := range gens {
			gens[i] = s.dense(c.n, 3, func() *big.Rat { return s.long(64, c.below) })
		}
		for _, p := range []api.Poly{read(c.n, "1"), s.dense(c.n, 6, func() *big.Rat { return s.long(64, c.below) })} {
			if c.want == api.OK {
				checkCofactors(t, p, gens, true)
				continue
			}
			got, e := ideal.Cofactors(p, gens)
			sameList(t, "Cofactors of "+show(p), got, e, nil, c.want)
			isMember, e := ideal.Member(p, gens)
			sameValue(t, "Member of "+show(p), isMember, e, true, api.OK)
		}
	}
}
