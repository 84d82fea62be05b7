package ideal_test

import (
	"slices"
	"testing"

	"isochrone/api"
	"isochrone/ideal"
	"isochrone/poly"
)

func TestSame(t *testing.T) {
	for _, c := range []struct {
		n    int
		a, b []string
		want bool
	}{
		{2, []string{"1*x0", "1*x1"}, []string{"1*x1 + 1*x0", "3*x0", "1*x0^2"}, true},
		{2, []string{"1*x0", "1*x1"}, []string{"1*x0"}, false},
		{2, []string{"1*x0"}, []string{"1*x0^2"}, false},
		{2, []string{"1*x0"}, []string{"1*x1"}, false},
		{2, []string{"1*x0"}, []string{"-7/3*x0"}, true},
		{2, []string{"1*x0"}, nil, false},
		{2, []string{"0"}, nil, true},
		{2, []string{"0"}, []string{"0", "0", "0"}, true},
		{2, nil, nil, true},
		{1, []string{"1*x0^2 + -1", "1*x0^3 + -1"}, []string{"1*x0 + -1"}, true},
		{3, []string{"2"}, []string{"1*x0", "1*x0 + 1", "1*x2"}, true},
		{3, []string{"1*x0^2 + -1*x1", "1*x0*x1 + -1*x2"}, []string{"1*x0*x1 + -1*x2", "1*x0*x2 + -1*x1^2", "1*x0^2 + -1*x1"}, true},
		{3, []string{"1*x0^2 + -1*x1", "1*x0*x1 + -1*x2"}, []string{"1*x0*x2 + -1*x1^2", "1*x0^2 + -1*x1"}, false},
	} {
		a, b := readAll(c.n, c.a...), readAll(c.n, c.b...)
		got, e := ideal.Same(a, b)
		sameValue(t, "Same of "+show(a...)+" and "+show(b...), got, e, c.want, api.OK)
		got, e = ideal.Same(b, a)
		sameValue(t, "Same of "+show(b...)+" and "+show(a...), got, e, c.want, api.OK)
	}
}

// TestSameOfMany has generators and sums of multiples of them.
func TestSameOfMany(t *testing.T) {
	s := source(67)
	for round := range 300 {
		n := 1 + round%3
		gens := s.generators(n, 2)
		mixed := []api.Poly{must(t)(poly.Add(gens[0], must(t)(poly.Scale(gens[1], fromBigRat(s.small()))))), gens[1], must(t)(poly.Scale(gens[0], fromBigRat(s.small())))}
		got, e := ideal.Same(gens, mixed)
		sameValue(t, "Same of "+show(gens...)+" and "+show(mixed...), got, e, true, api.OK)
		other := s.sparse(n, degreeFor(n), 3, s.small)
		want, _ := ideal.Member(other, gens)
		got, e = ideal.Same(gens, append(gens[:2:2], other))
		sameValue(t, "Same of "+show(gens...)+" and the list with "+show(other), got, e, want, api.OK)
	}
}

func TestEliminate(t *testing.T) {
	curve := []string{"1*x0^2 + -1*x1", "1*x0*x1 + -1*x2"}
	for _, c := range []struct {
		n    int
		gens []string
		k    int
		want []string
		e    api.Errno
	}{
		{3, curve, 0, []string{"1*x0^2 + -1*x1", "1*x0*x1 + -1*x2", "1*x0*x2 + -1*x1^2", "1*x1^3 + -1*x2^2"}, api.OK},
		{3, curve, 1, []string{"1*x1^3 + -1*x2^2"}, api.OK},
		{3, curve, 2, nil, api.OK},
		{3, curve, 3, nil, api.OK},
		{3, curve, -1, nil, api.ErrRange},
		{3, curve, 4, nil, api.ErrRange},
		{2, []string{"1*x0^2 + 1*x1^2 + -1", "1*x0 + -1*x1"}, 1, []string{"1*x1^2 + -1/2"}, api.OK},
		{2, []string{"1*x0*x1", "1*x1^2 + 1*x0"}, 1, []string{"1*x1^3"}, api.OK},
		{2, []string{"1*x0*x1 + -1", "1*x0"}, 0, []string{"1"}, api.OK},
		{2, []string{"1*x0*x1 + -1", "1*x0"}, 2, []string{"1"}, api.OK},
		{2, []string{"1*x0*x1 + -1", "1*x0"}, 3, nil, api.ErrRange},
		{2, []string{"0"}, 2, nil, api.OK},
		{2, []string{"0"}, 3, nil, api.ErrRange},
		{1, []string{"1*x0"}, 1, nil, api.OK},
		{0, nil, 0, nil, api.OK},
		{0, nil, 1, nil, api.ErrRange},
		{0, nil, -1, nil, api.ErrRange},
		{3, curve, 1 << 62, nil, api.ErrRange},
		{3, curve, -1 << 63, nil, api.ErrRange},
	} {
		gens := readAll(c.n, c.gens...)
		got, e := ideal.Eliminate(gens, c.k)
		sameList(t, "Eliminate in "+show(gens...), got, e, readAll(c.n, c.want...), c.e)
	}
}

// TestEliminateMany compares with the reduced basis, and each polynomial with the ideal.
func TestEliminateMany(t *testing.T) {
	s := source(68)
	for round := range 300 {
		n := 1 + round%3
		gens := s.generators(n, 1+s.upTo(2))
		basis := naiveBasis(tablesOf(gens))
		for k := range n + 1 {
			want := polysOf(n, slices.DeleteFunc(slices.Clone(basis), func(p table) bool {
				for m := range p {
					if slices.Max(append(m[:k:k], 0)) > 0 {
						return true
					}
				}
				return false
			}))
			got, e := ideal.Eliminate(gens, k)
			sameList(t, "Eliminate in "+show(gens...), got, e, want, api.OK)
		}
	}
}

func TestPower(t *testing.T) {
	for _, c := range []struct {
		n    int
		p    string
		gens []string
		most int
		want int
		e    api.Errno
	}{
		{2, "1*x0", []string{"1*x0^3", "1*x1"}, 4, 3, api.OK},
		{2, "1*x0", []string{"1*x0^3", "1*x1"}, 3, 3, api.OK},
		{2, "1*x0", []string{"1*x0^3", "1*x1"}, 2, 0, api.OK},
		{2, "1*x0", []string{"1*x0^3", "1*x1"}, 1, 0, api.OK},
		{2, "1*x0 + 1*x1", []string{"1*x0^3", "1*x1"}, 4, 3, api.OK},
		{2, "1*x0 + 1*x1", []string{"1*x0^3", "1*x1^2"}, 4, 4, api.OK},
		{2, "1*x0 + 1*x1", []string{"1*x0^3", "1*x1^2"}, 3, 0, api.OK},
		{2, "1*x0 + 1*x1", []string{"1*x0^3", "1*x1^3"}, 4, 0, api.OK},
		{2, "1*x0 + 1", []string{"1*x0^3", "1*x1"}, 4, 0, api.OK},
		{3, "1*x0 + 1*x1 + 1*x2", []string{"1*x0^2", "1*x1^2", "1*x2^2"}, 4, 4, api.OK},
		{3, "1*x0*x1 + 1*x2", []string{"1*x0^2", "1*x1^2", "1*x2^2"}, 3, 3, api.OK},
		{1, "1*x0^3 + -1*x0", []string{"1*x0^2 + -2*x0 + 1"}, 2, 2, api.OK},
		{1, "1*x0^6 + -1", []string{"1*x0^2 + -2*x0 + 1"}, 1, 0, api.OK},
		{1, "1*x0^6 + -1", []string{"1*x0^2 + -1"}, 1, 1, api.OK},
		{1, "0", []string{"1*x0^2"}, 4, 1, api.OK},
		{1, "0", nil, 4, 1, api.OK},
		{1, "1*x0", nil, 4, 0, api.OK},
		{8, "1*x0 + 1*x7", nil, 4, 0, api.OK},
		{2, "1*x0", []string{"0"}, 4, 0, api.OK},
		{2, "1/2", []string{"1*x0"}, 4, 0, api.OK},
		{2, "1/2", []string{"3"}, 4, 1, api.OK},
		{1, "1*x0", []string{"1*x0^2"}, 0, 0, api.ErrRange},
		{1, "1*x0", []string{"1*x0^2"}, 5, 0, api.ErrRange},
		{1, "1*x0", []string{"1*x0^2"}, -1, 0, api.ErrRange},
		{1, "0", []string{"1*x0^2"}, -1 << 63, 0, api.ErrRange},
		{1, "1*x0^6", []string{"1*x0^2"}, 1, 1, api.OK},
		{1, "1*x0^7", []string{"1*x0^2"}, 1, 0, api.ErrBudget},
		{1, "1*x0^3", []string{"1*x0^2"}, 2, 1, api.OK},
		{1, "1*x0^4", []string{"1*x0^2"}, 2, 0, api.ErrBudget},
		{1, "1*x0^2", []string{"1*x0^3"}, 3, 2, api.OK},
		{1, "1*x0^3", []string{"1*x0^3"}, 3, 0, api.ErrBudget},
		{1, "1*x0", []string{"1*x0^3"}, 4, 3, api.OK},
		{1, "1*x0^2", []string{"1*x0^3"}, 4, 0, api.ErrBudget},
		{3, "1*x0*x2", []string{"1*x0"}, 4, 0, api.ErrBudget},
		// A degree above 6 is an ErrBudget before anything else about most; a lower one is not.
		{1, "1*x0^7", []string{"1*x0^2"}, 0, 0, api.ErrBudget},
		{1, "1*x0^7", []string{"1*x0^2"}, 5, 0, api.ErrBudget},
		{1, "1*x0^6", []string{"1*x0^2"}, 5, 0, api.ErrRange},
	} {
		gens := readAll(c.n, c.gens...)
		got, e := ideal.Power(read(c.n, c.p), gens, c.most)
		sameValue(t, "Power of "+c.p+" in "+show(gens...), got, e, c.want, c.e)
	}
}

// TestPowerOfMany compares with Member of the powers.
func TestPowerOfMany(t *testing.T) {
	s := source(69)
	for round := range 300 {
		n, most := 1+round%3, 1+s.upTo(3)
		gens := s.generators(n, 1+s.upTo(2))
		p := s.sparse(n, 6/most, 2, s.small)
		if s.upTo(1) == 0 {
			// Powers of a factor of the generators are more likely to be in the ideal.
			factor := s.sparse(n, 1, 7, s.small)
			for i := range gens {
				gens[i] = must(t)(poly.Pow(factor, degreeFor(n)-i%2))
			}
			p = factor
		}
		want := 0
		for k := most; k >= 1; k-- {
			isMember, e := ideal.Member(must(t)(poly.Pow(p, k)), gens)
			if e != api.OK {
				t.Fatalf("Member has error %d", e)
			}
			if isMember {
				want = k
			}
		}
		got, e := ideal.Power(p, gens, most)
		sameValue(t, "Power of "+show(p)+" in "+show(gens...), got, e, want, api.OK)
	}
}
