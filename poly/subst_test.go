package poly_test

import (
	"math/big"
	"testing"

	"isochrone/api"
	"isochrone/poly"
)

func TestSubst(t *testing.T) {
	for _, c := range []struct {
		n, i       int
		p, q, want string
	}{
		{1, 0, "0", "1*x0", "0"}, {1, 0, "0", "0", "0"}, {1, 0, "5", "1*x0", "5"}, {1, 0, "1*x0", "0", "0"}, {1, 0, "1*x0 + 5", "0", "5"}, {1, 0, "1*x0^2 + 5", "3", "14"}, {1, 0, "1*x0^2 + 1*x0", "1*x0 + 1", "1*x0^2 + 3*x0 + 2"}, {1, 0, "1*x0^2", "-1/2*x0^20", "1/4*x0^40"},
		{2, 0, "1*x0^2 + 1*x1", "1*x1", "1*x1^2 + 1*x1"}, {2, 1, "1*x0^2 + 1*x1", "1*x0", "1*x0^2 + 1*x0"}, {2, 0, "1*x0^2 + -1*x1^2", "1*x1", "0"}, {2, 1, "1*x0*x1", "1*x0 + 1*x1", "1*x0^2 + 1*x0*x1"}, {2, 0, "1*x0*x1", "1*x0 + 1*x1", "1*x0*x1 + 1*x1^2"},
		{2, 0, "1*x0^2*x1 + 2*x0*x1^2", "1*x0 + -1*x1", "1*x0^2*x1 + -1*x1^3"}, {2, 1, "1*x0^3 + 5", "1*x0^40", "1*x0^3 + 5"}, {3, 2, "1*x2^2", "1*x0 + 1*x1", "1*x0^2 + 2*x0*x1 + 1*x1^2"}, {8, 7, "1*x7^40", "1*x0", "1*x0^40"}, {8, 0, "1*x0^40 + 1*x1", "-1", "1*x1 + 1"},
	} {
		got, e := poly.Subst(read(c.n, c.p), c.i, read(c.n, c.q))
		same(t, "Subst of "+c.p+" by "+c.q, got, e, read(c.n, c.want), api.OK)
	}
}

func TestSubstLimits(t *testing.T) {
	long := monomial(power(6000), 2)
	minusLong := monomial(new(big.Rat).Neg(power(6300)), 1)
	for _, c := range []struct {
		what string
		p, q table
		n    int
		e    api.Errno
	}{
		{"degree 40", parse("1*x0^2 + 1*x0"), parse("1*x1^20 + 1*x0"), 2, api.OK}, {"a power of degree 42", parse("1*x0^2 + 1*x0"), parse("1*x1^21 + 1*x0"), 2, api.ErrLimit}, {"a product of degree 41", parse("1*x0*x1 + 1"), parse("1*x1^40"), 2, api.ErrLimit}, {"a product of degree 40", parse("1*x0*x1 + 1"), parse("1*x1^39"), 2, api.OK},
		{"a power with long numbers", monomial(power(-1000), 2), monomial(power(3200)), 1, api.ErrLimit}, {"a power with numbers that are just short enough", monomial(power(-1000), 2), monomial(power(3199)), 1, api.OK}, {"a product with long numbers that the sum does not have", long.plus(minusLong), monomial(power(300)), 1, api.ErrLimit},
		{"products with numbers that are just short enough", monomial(power(5799), 2).plus(monomial(new(big.Rat).Neg(power(6099)), 1)), monomial(power(300)), 1, api.OK}, {"a sum with long numbers", monomial(power(6399), 1).plus(monomial(power(6399), 2)), parse("1"), 1, api.ErrLimit}, {"a power whose coefficient is zero", monomial(power(-6399), 3), monomial(power(3000)), 1, api.ErrLimit},
		{"a power of many terms", parse("1*x0^7"), dense(8, 1), 8, api.ErrLimit}, {"a power of 3003 terms", parse("1*x0^6"), dense(8, 1), 8, api.OK}, {"a product of many terms", dense(8, 4), dense(8, 1).times(dense(8, 1)), 8, api.ErrLimit}, {"no power at all", parse("1*x1 + 1"), filled(api.MaxTerms), 8, api.OK}, {"the power 1", parse("2*x0 + 1"), filled(api.MaxTerms), 8, api.OK},
		{"a sum of many terms", parse("1*x0 + 1*x7^40"), filled(api.MaxTerms), 8, api.ErrLimit},
	} {
		want := api.Poly{}
		if c.e == api.OK {
			want = c.p.subst(0, c.q).poly(c.n)
		}
		got, e := poly.Subst(c.p.poly(c.n), 0, c.q.poly(c.n))
		same(t, "Subst with "+c.what, got, e, want, c.e)
	}
}

// TestNumbersOnTheWayOfSubst has sums within the limits, though parts of them are above these.
func TestNumbersOnTheWayOfSubst(t *testing.T) {
	s := source(6)
	sum := s.long(200)
	p := chain(&s, sum)
	for _, q := range []string{"1", "-1"} {
		got, e := poly.Subst(p.poly(1), 0, read(1, q))
		same(t, "Subst with long numbers by "+q, got, e, monomial(sum).poly(1), api.OK)
	}
	got, e := poly.Subst(p.poly(1), 0, read(1, "1*x0"))
	same(t, "Subst with long numbers by x0", got, e, p.poly(1), api.OK)
}

// TestTermsOnTheWayOfSubst has a sum of at most MaxTerms terms, though two of its parts have more together. The parts for the powers 1 and 2 have no monomial in common; the one for the power 0 takes most of the latter away.
func TestTermsOnTheWayOfSubst(t *testing.T) {
	q := parse("1*x0 + 1*x1 + 1*x2 + 1*x3 + 1*x4 + 1*x5 + 1*x6 + 1*x7")
	one, two := table{}, table{}
	for k := range 280 {
		one.add(key{0, k % 6, k / 6 % 6, k / 36}, big.NewRat(1, 1))
		if k < 140 {
			two.add(key{0, 0, 0, 0, 10 + k%6, k / 6 % 6, k / 36}, big.NewRat(1, 1))
		}
	}
	first, second := one.times(q), two.times(q).times(q)
	p := one.times(parse("1*x0")).plus(two.times(parse("1*x0^2")))
	away := 0
	for m, c := range second {
		if m[0] == 0 {
			p.add(m, new(big.Rat).Neg(c))
			away++
		}
	}
	whole := first.plus(second).plus(p.coef(0, 0))
	if len(second) > api.MaxTerms || away+len(first) <= api.MaxTerms || len(second)+len(first) <= api.MaxTerms || len(whole) > api.MaxTerms {
		t.Fatalf("no example: %d and %d terms make %d", len(first), len(second), len(whole))
	}
	got, e := poly.Subst(p.poly(8), 0, q.poly(8))
	same(t, "Subst with many terms on the way", got, e, whole.poly(8), api.OK)
}

// TestProductsOfSubst has a sum of at most MaxTerms terms, one part of which has more.
func TestProductsOfSubst(t *testing.T) {
	q := parse("1*x0 + 1*x1 + 1*x2 + 1*x3 + 1*x4 + 1*x5 + 1*x6 + 1*x7")
	one := table{}
	for k := range 720 {
		one.add(key{0, k % 6, k / 6 % 6, k / 36 % 5, k / 180}, big.NewRat(1, 1))
	}
	part, p := one.times(q), one.times(parse("1*x0"))
	for m, c := range part {
		if m[0] == 0 && m[1]%2 == 0 {
			p.add(m, new(big.Rat).Neg(c))
		}
	}
	whole := part.plus(p.coef(0, 0))
	if len(part) <= api.MaxTerms || len(p) > api.MaxTerms || len(whole) > api.MaxTerms {
		t.Fatalf("no example: %d terms and a part of %d make %d", len(p), len(part), len(whole))
	}
	got, e := poly.Subst(p.poly(8), 0, q.poly(8))
	fails(t, "Subst with a product of many terms", got, e, api.ErrLimit)
}

func TestSubstAgainstTables(t *testing.T) {
	s := source(7)
	for round := range 300 {
		n := 1 + round%8
		p, q := s.sparse(n, s.upTo(6), min(4, 12/n)), s.sparse(n, s.upTo(4), min(3, 12/n))
		i := s.upTo(n - 1)
		want := p.subst(i, q).poly(n)
		got, e := poly.Subst(p.poly(n), i, q.poly(n))
		if !poly.Valid(want) {
			fails(t, "Subst beyond the limits", got, e, api.ErrLimit)
			continue
		}
		same(t, "Subst of "+brief(p.poly(n))+" by "+brief(q.poly(n)), got, e, want, api.OK)
	}
}
