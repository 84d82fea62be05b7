package ideal

import (
	"slices"
	"testing"

	"isochrone/api"
	"isochrone/modular"
	"isochrone/poly"
	"isochrone/wide"
)

// source makes numbers that look random and are the same in every run: those of the tests outside the package.
type source uint64

func (s *source) next() uint64 {
	*s = *s*6364136223846793005 + 1442695040888963407
	return uint64(*s>>33) | uint64(*s>>1)&^0x7fffffff
}

func (s *source) upTo(n int) int {
	return int(s.next() >> 20 % uint64(n+1))
}

func (s *source) odd(digits int) wide.Num {
	n := wide.Int(1).Shift(digits - 1).Add(wide.Int(1))
	for i := 1; i < digits-1; i++ {
		n = n.Add(wide.Int(s.upTo(1)).Shift(i))
	}
	return n
}

// dense returns a polynomial with all monomials up to a degree.
func (s *source) dense(n, degree, above, below int) exact {
	var p exact
	for k := range degree + 1 {
		for _, m := range monomials(n, k) {
			num := s.odd(above)
			p = append(p, term[wide.Num]{m, num.Quo(s.odd(below))})
		}
	}
	return p
}

func words(list []exact) int {
	longest := 0
	for _, p := range list {
		for _, t := range p {
			r := t.coef.Rat()
			longest = max(longest, len(r.Num), len(r.Den))
		}
	}
	return longest
}

// TestLongestBasis compares the result of lifting with that of Buchberger's algorithm by the lexicographic order, where numbers have no limit. Seeds 7 and 8 are those of the other tests.
func TestLongestBasis(t *testing.T) {
	lexical := ring[wide.Num]{rationals{}, exponents.lexical}
	for _, c := range []struct{ seed, n, degree, count, above, below, words int }{
		{7, 2, 3, 2, 64, 29, 200}, {8, 2, 3, 2, 64, 29, 201}, {14, 2, 3, 2, 64, 29, 200}, {16, 2, 3, 2, 64, 29, 201},
		{1, 2, 3, 2, 64, 2, 0}, {2, 3, 2, 3, 32, 2, 0}, {3, 3, 2, 3, 63, 2, 0}, {4, 3, 2, 2, 64, 64, 0}, {5, 3, 2, 1, 64, 64, 0}, {6, 2, 3, 1, 64, 64, 0}, {7, 2, 3, 3, 64, 64, 0}, {8, 1, 3, 2, 64, 64, 0},
	} {
		s := source(c.seed)
		gens := make([]exact, c.count)
		for i := range gens {
			gens[i] = lexical.arranged(s.dense(c.n, c.degree, c.above, c.below))
		}
		list, ok := storeAll(c.n, gens)
		if !ok {
			t.Fatal("the generators are not valid")
		}
		direct := lexical.groebner(gens)
		if c.words > 0 && words(direct) != c.words {
			t.Errorf("the basis of seed %d has %d words, not %d", c.seed, words(direct), c.words)
		}
		got, e := Basis(list)
		want, valid := storeAll(c.n, direct)
		if valid != (e == api.OK) || !slices.EqualFunc(got, want, areEqual) {
			t.Errorf("the basis of seed %d, of %d words, has error %d, or is not that of the lexicographic order", c.seed, words(direct), e)
		}
	}
}

func TestOrders(t *testing.T) {
	// In ascending order.
	lexical := []exponents{{0, 0, 0}, {0, 0, 1}, {0, 0, 3}, {0, 1, 0}, {0, 1, 2}, {0, 2, 0}, {1, 0, 0}, {1, 0, 1}, {1, 1, 0}, {2, 0, 0}}
	graded := []exponents{{0, 0, 0}, {0, 0, 1}, {0, 1, 0}, {1, 0, 0}, {0, 0, 2}, {0, 1, 1}, {1, 0, 1}, {0, 2, 0}, {1, 1, 0}, {2, 0, 0}, {0, 0, 3}}
	for _, c := range []struct {
		list  []exponents
		order func(a, b exponents) int
	}{{lexical, exponents.lexical}, {graded, exponents.graded}} {
		for i, a := range c.list {
			for k, b := range c.list {
				if got := c.order(a, b); (got < 0) != (i < k) || (got > 0) != (i > k) {
					t.Errorf("the order of %v and %v is %d", a, b, got)
				}
			}
		}
	}
}

func TestMonomials(t *testing.T) {
	for _, c := range []struct {
		n, degree int
		want      []exponents
	}{
		{0, 0, []exponents{{}}}, {0, 1, nil}, {1, 3, []exponents{{3}}}, {2, 2, []exponents{{2, 0}, {1, 1}, {0, 2}}}, {3, 1, []exponents{{1, 0, 0}, {0, 1, 0}, {0, 0, 1}}}, {3, 0, []exponents{{0, 0, 0}}}, {3, -1, nil},
	} {
		if got := monomials(c.n, c.degree); !slices.EqualFunc(got, c.want, slices.Equal) {
			t.Errorf("the monomials of degree %d in %d variables are %v", c.degree, c.n, got)
		}
	}
	if got := monomials(3, 6); len(got) != 28 {
		t.Errorf("there are %d monomials of degree 6", len(got))
	}
}

// columnOf makes a polynomial in one variable of its coefficients from the constant upwards.
func columnOf(numbers ...wide.Num) exact {
	var p exact
	for i, x := range slices.Backward(numbers) {
		if !x.IsZero() {
			p = append(p, term[wide.Num]{exponents{i}, x})
		}
	}
	return p
}

func TestSystem(t *testing.T) {
	n := func(k int) wide.Num { return wide.Int(k) }
	prime := wide.Int(int(modular.First))
	most := n(1).Shift(32 * 200).Add(n(-1))
	for what, c := range map[string]struct {
		columns []exact
		target  exact
		want    []wide.Num
		v       verdict
	}{
		"nothing":                          {nil, nil, nil, found},
		"no columns":                       {nil, columnOf(n(1)), nil, unsuited},
		"zero":                             {[]exact{columnOf(n(1)), columnOf(n(0), n(1))}, nil, []wide.Num{n(0), n(0)}, found},
		"integers":                         {[]exact{columnOf(n(1), n(2)), columnOf(n(3), n(4))}, columnOf(n(1), n(0)), []wide.Num{n(-2), n(1)}, found},
		"fractions":                        {[]exact{columnOf(n(1).Quo(n(7)), n(2)), columnOf(n(3), n(5))}, columnOf(n(1), n(1)), []wide.Num{n(-14).Quo(n(37)), n(13).Quo(n(37))}, found},
		"a zero column":                    {[]exact{nil, columnOf(n(2))}, columnOf(n(1)), []wide.Num{n(0), n(1).Quo(n(2))}, found},
		"a column that depends":            {[]exact{columnOf(n(2)), columnOf(n(3)), columnOf(n(0), n(1))}, columnOf(n(1), n(5)), []wide.Num{n(1).Quo(n(2)), n(0), n(5)}, found},
		"no factors":                       {[]exact{columnOf(n(1), n(1))}, columnOf(n(1), n(2)), nil, unsuited},
		"factors modulo the prime alone":   {[]exact{columnOf(n(1), n(1))}, columnOf(n(1), prime.Add(n(1))), nil, unsuited},
		"factors modulo its square alone":  {[]exact{columnOf(n(1), n(1))}, columnOf(n(1), prime.Mul(prime).Add(n(1))), nil, unsuited},
		"a column that depends by chance":  {[]exact{columnOf(n(1), n(1)), columnOf(n(1), prime.Add(n(1)))}, columnOf(n(0), prime), nil, unsuited},
		"a denominator with the prime":     {[]exact{columnOf(prime)}, columnOf(n(1)), nil, unsuited},
		"a factor that is the prime":       {[]exact{columnOf(n(1))}, columnOf(prime), []wide.Num{prime}, found},
		"the longest numerator":            {[]exact{columnOf(n(1))}, columnOf(most), []wide.Num{most}, found},
		"the longest negative numerator":   {[]exact{columnOf(n(1))}, columnOf(most.Neg()), []wide.Num{most.Neg()}, found},
		"the longest denominator":          {[]exact{columnOf(most)}, columnOf(n(1)), []wide.Num{n(1).Quo(most)}, found},
		"the longest parts":                {[]exact{columnOf(most)}, columnOf(most.Add(n(-2))), []wide.Num{most.Add(n(-2)).Quo(most)}, found},
		"a numerator that is too long":     {[]exact{columnOf(n(1))}, columnOf(most.Add(n(1))), nil, tooLong},
		"a denominator that is too long":   {[]exact{columnOf(most.Add(n(1)))}, columnOf(n(1)), nil, tooLong},
		"a numerator far beyond the limit": {[]exact{columnOf(n(3))}, columnOf(n(1).Shift(32000)), nil, tooLong},
		"one factor that is too long":      {[]exact{columnOf(n(1)), columnOf(n(0), n(1))}, columnOf(n(5), n(1).Shift(6400)), nil, tooLong},
	} {
		s := newSystem(c.columns, c.target, modular.First)
		got, v := s.solve()
		if v != c.v || !slices.EqualFunc(got, c.want, func(a, b wide.Num) bool { return a.Cmp(b) == 0 }) {
			t.Errorf("%s: the verdict is %d with %d factors", what, v, len(got))
		}
	}
}

// TestShadow: a prime is left out if the basis by the graded order has a coefficient that the prime divides.
func TestShadow(t *testing.T) {
	prime := wide.Int(int(modular.First))
	for _, c := range []struct {
		coef wide.Num
		want bool
	}{{wide.Int(2), true}, {prime, false}, {wide.Int(1).Quo(prime), false}, {prime.Add(wide.Int(1)), true}, {prime.Mul(wide.Int(3)), false}} {
		x := &space{n: 2, graded: []exact{{{exponents{0, 2}, wide.Int(1)}, {exponents{1, 0}, c.coef}}}, normals: map[[api.MaxVars]int]exact{}}
		s, ok := x.shadow(modular.First)
		if ok != c.want || ok && !slices.Equal(s.basis[0][0].exps, exponents{1, 0}) {
			t.Errorf("the shadow is %v, %v", s.basis, ok)
		}
	}
}

// TestUnsuitedShadow has the ideal of five points. Their second coordinates differ, but modulo the prime two of them are the same: then the first coordinates are no function of the second ones, and the leading terms are others.
func TestUnsuitedShadow(t *testing.T) {
	r, prime := gradedRing(), wide.Int(int(modular.First))
	points := [][2]wide.Num{{wide.Int(1), wide.Int(1)}, {wide.Int(2), prime.Add(wide.Int(1))}, {wide.Int(5), wide.Int(7)}, {wide.Int(9), wide.Int(11)}, {wide.Int(3), wide.Int(4)}}
	// The second coordinate as a function of the first one, by Lagrange, and the polynomial whose roots the first ones are.
	function, roots := exact{{exponents{0, 1}, wide.Int(-1)}}, exact{{exponents{0, 0}, wide.Int(1)}}
	for i, p := range points {
		part := exact{{exponents{0, 0}, p[1]}}
		for k, q := range points {
			if k != i {
				linear := exact{{exponents{1, 0}, wide.Int(1)}, {exponents{0, 0}, q[0].Neg()}}
				part = r.multiple(wide.Int(1).Quo(p[0].Add(q[0].Neg())), exponents{0, 0}, r.product(part, linear))
			}
		}
		function = r.sum(function, part)
		roots = r.product(roots, exact{{exponents{1, 0}, wide.Int(1)}, {exponents{0, 0}, p[0].Neg()}})
	}
	x := &space{n: 2, graded: r.groebner([]exact{function, roots}), normals: map[[api.MaxVars]int]exact{}}
	s, ok := x.shadow(modular.First)
	if !ok || slices.Equal(s.basis[0][0].exps, exponents{1, 0}) {
		t.Fatalf("the shadow is %v, %v", s.basis, ok)
	}
	if basis, v := x.basis(s); v != unsuited || len(basis) > 0 {
		t.Errorf("by the shadow, the verdict is %d, with %d polynomials", v, len(basis))
	}
	basis, e := x.fullBasis()
	if e != api.OK || len(basis) != 2 || !slices.Equal(basis[0].Terms[0].Exps, []int{1, 0}) || !slices.Equal(basis[1].Terms[0].Exps, []int{0, 5}) {
		t.Errorf("the basis has %d polynomials and error %d", len(basis), e)
	}
	for _, p := range points {
		for _, g := range basis {
			if value, e := poly.Eval(g, []api.Rat{p[0].Rat(), p[1].Rat()}); e != api.OK || len(value.Num) > 0 {
				t.Error("a polynomial of the basis is not zero at a point")
			}
		}
	}
}
