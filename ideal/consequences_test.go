package ideal_test

import (
	"math/big"
	"slices"
	"testing"

	"isochrone/api"
	"isochrone/ideal"
	"isochrone/poly"
)

// TestRemainders: Reduce is additive, is zero exactly on the ideal, and leaves remainders unchanged.
func TestRemainders(t *testing.T) {
	s := source(70)
	for round := range 200 {
		n := 1 + round%3
		gens := s.generators(n, 1+s.upTo(2))
		p, q := s.sparse(n, 6, 2, s.small), s.member(t, gens, 6)
		if round%2 == 0 {
			q = s.sparse(n, 5, 3, s.small)
		}
		sum := must(t)(poly.Add(p, q))
		restP, restQ, restSum := must(t)(ideal.Reduce(p, gens)), must(t)(ideal.Reduce(q, gens)), must(t)(ideal.Reduce(sum, gens))
		same(t, "the remainder of a sum", must(t)(poly.Add(restP, restQ)), api.OK, restSum, api.OK)
		for _, c := range []struct{ p, rest api.Poly }{{p, restP}, {q, restQ}, {sum, restSum}} {
			isMember, e := ideal.Member(c.p, gens)
			sameValue(t, "Member of "+show(c.p), isMember, e, len(c.rest.Terms) == 0, api.OK)
			if degree, _ := poly.Degree(c.rest); degree <= 6 && longest(c.rest) <= 2 {
				again, e := ideal.Reduce(c.rest, gens)
				same(t, "the remainder of a remainder", again, e, c.rest, api.OK)
			}
		}
	}
}

// TestBasisOfBasis: where a reduced basis is within the budget, it is its own reduced basis. Its polynomials are in the ideal.
func TestBasisOfBasis(t *testing.T) {
	s := source(71)
	again := 0
	for round := range 300 {
		n := 1 + round%3
		gens := s.generators(n, 1+s.upTo(2))
		basis := mustList(t)(ideal.Basis(gens))
		got, e := ideal.Basis(basis)
		if e == api.OK {
			again++
			sameList(t, "Basis of a basis", got, e, basis, api.OK)
			isSame, e := ideal.Same(gens, basis)
			sameValue(t, "Same", isSame, e, true, api.OK)
		}
		for _, p := range basis {
			if degree, _ := poly.Degree(p); degree <= 6 && longest(p) <= 2 {
				checkCofactors(t, p, gens, true)
			}
		}
	}
	if again < 100 {
		t.Errorf("only %d bases are within the budget", again)
	}
}

// TestCommonZeros has generators with a zero that is known; it is a zero of every member.
func TestCommonZeros(t *testing.T) {
	s := source(72)
	for round := range 200 {
		n := 1 + round%3
		point := make([]api.Rat, n)
		for i := range point {
			point[i] = fromBigRat(big.NewRat(int64(s.upTo(6)-3), int64(1+s.upTo(1))))
		}
		gens := s.generators(n, 1+s.upTo(2))
		for i, g := range gens {
			value, _ := poly.Eval(g, point)
			gens[i] = must(t)(poly.Sub(g, must(t)(poly.Const(n, value))))
		}
		basis := mustList(t)(ideal.Basis(gens))
		for k := range n + 1 {
			basis = append(basis, mustList(t)(ideal.Eliminate(gens, k))...)
		}
		p := s.sparse(n, 6, 3, s.small)
		basis = append(basis, must(t)(poly.Sub(p, must(t)(ideal.Reduce(p, gens)))), s.member(t, gens, 6))
		for _, p := range basis {
			value, e := poly.Eval(p, point)
			if e != api.OK || len(value.Num) > 0 {
				t.Errorf("%s is not zero where %s are", show(p), show(gens...))
			}
		}
		if isMember, _ := ideal.Member(read(n, "1"), gens); isMember {
			t.Errorf("1 is in the ideal of %s", show(gens...))
		}
	}
}

// TestBasisShape: the polynomials of a reduced basis are monic and in descending order, no term is a multiple of the leading term of another one, and Buchberger's criterion holds.
func TestBasisShape(t *testing.T) {
	s := source(73)
	for round := range 200 {
		n := 1 + round%3
		gens := make([]api.Poly, 1+s.upTo(2))
		for i := range gens {
			gens[i] = s.sparse(n, degreeFor(n), 3, func() *big.Rat { return s.long(1+s.upTo(63), s.upTo(20)) })
		}
		list, e := ideal.Basis(gens)
		if e == api.ErrLimit {
			continue
		}
		basis := tablesOf(list)
		for i, p := range basis {
			if p[p.first()].Cmp(big.NewRat(1, 1)) != 0 || i > 0 && basis[i-1].first().compare(p.first()) <= 0 {
				t.Errorf("the basis of %s is not monic and in descending order", show(gens...))
			}
			others := slices.Delete(slices.Clone(basis), i, i+1)
			if len(p.remainder(others)) != len(p) {
				t.Errorf("the basis of %s is not reduced", show(gens...))
			}
		}
		if longest(list...) < 40 && !isComplete(basis) {
			t.Errorf("the basis of %s is not complete", show(gens...))
		}
		for _, g := range gens {
			if len(tableOf(g).remainder(basis)) > 0 {
				t.Errorf("a generator is not in the ideal of the basis of %s", show(gens...))
			}
		}
	}
}
