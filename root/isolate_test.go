package root_test

import (
	"math/big"
	"testing"

	"isochrone/api"
	"isochrone/root"
)

func TestBound(t *testing.T) {
	for _, c := range []struct{ c, want string }{
		{"5", "1"}, {"-1/7", "1"}, {"0 3", "1"}, {"0 0 1", "1"}, {"-5 1", "6"}, {"5 1", "6"}, {"10 2", "6"}, {"1 2 -4", "3/2"}, {"-3 7 1", "8"}, {"7 -3 1/2", "15"}, {"1/2 0 0 3", "7/6"},
	} {
		got, e := root.Bound(read(c.c))
		sameNumber(t, "Bound of "+c.c, got, e, number(c.want), api.OK)
	}
	got, e := root.Bound(nil)
	sameNumber(t, "Bound of zero", got, e, api.Rat{}, api.ErrZero)
	s := source(8)
	for range 300 {
		p := s.coefs(s.upTo(9))
		if len(p) == 0 {
			continue
		}
		got, e := root.Bound(p.list())
		sameNumber(t, "Bound of "+briefList(p.list()), got, e, fromBigRat(p.bound()), api.OK)
	}
	// A bound may be longer than a number in an argument.
	p := coefs{neg(power(6399)), power(-6399)}
	got, e = root.Bound(p.list())
	sameNumber(t, "a long bound", got, e, fromBigRat(plus(power(12798), whole(1))), api.OK)
}

func TestCount(t *testing.T) {
	for _, c := range []struct {
		c, lo, hi string
		want      int
	}{
		{"-2 0 1", "-2", "2", 2}, {"-2 0 1", "0", "2", 1}, {"-2 0 1", "0", "1", 0}, {"-2 0 1", "2", "5", 0}, {"1 0 1", "-9", "9", 0}, {"5", "-1", "1", 0}, {"0 1", "0", "0", 0}, {"0 1", "-1", "0", 1}, {"0 1", "0", "1", 0},
		{"0 -1 1", "0", "1", 1}, {"0 -1 1", "-1", "0", 1}, {"0 -1 1", "-1", "1", 2}, {"0 -1 1", "1", "2", 0},
		// Roots that are multiple count once, also at the ends.
		{"1 -2 1", "0", "1", 1}, {"1 -2 1", "1", "2", 0}, {"1 -2 1", "0", "2", 1}, {"0 0 1 -2 1", "-1", "1", 2}, {"0 0 1 -2 1", "0", "1", 1}, {"1 0 2 0 1", "-1", "1", 0}, {"0 0 0 0 5", "-1", "0", 1},
		{"1/2 -3/2 1", "0", "1/2", 1}, {"1/2 -3/2 1", "1/2", "1", 1}, {"1/2 -3/2 1", "1/3", "100000000000000000000", 2},
	} {
		got, e := root.Count(read(c.c), number(c.lo), number(c.hi))
		sameInt(t, "Count of "+c.c+" from "+c.lo+" to "+c.hi, got, e, c.want, api.OK)
	}
}

func TestCountErrors(t *testing.T) {
	for _, c := range []struct {
		c, lo, hi string
		want      api.Errno
	}{{"", "0", "1", api.ErrZero}, {"", "1", "0", api.ErrZero}, {"-2 0 1", "1", "0", api.ErrRange}, {"5", "1", "1/2", api.ErrRange}, {"-1 1", "1", "-1", api.ErrRange}} {
		got, e := root.Count(read(c.c), number(c.lo), number(c.hi))
		sameInt(t, "Count of "+c.c+" from "+c.lo+" to "+c.hi, got, e, 0, c.want)
	}
}

func TestCountAtRandom(t *testing.T) {
	s := source(9)
	for range 700 {
		p := s.product(s.upTo(4), s.upTo(5))
		if len(p) == 0 {
			continue
		}
		count := p.counter()
		for range 4 {
			lo, hi := s.fraction(), s.fraction()
			if lo.Cmp(hi) > 0 {
				lo, hi = hi, lo
			}
			got, e := root.Count(p.list(), fromBigRat(lo), fromBigRat(hi))
			sameInt(t, "Count of "+briefList(p.list())+" from "+lo.RatString()+" to "+hi.RatString(), got, e, count(lo, hi), api.OK)
		}
	}
}

func TestIsolate(t *testing.T) {
	type ends struct{ lo, hi string }
	for _, c := range []struct {
		c, free string
		want    []ends
	}{
		{"5", "", nil}, {"-1/2", "", nil}, {"1 0 1", "", nil}, {"1 0 2 0 1", "", nil}, {"1 1 1 1 1", "", nil},
		{"-5 1", "-5 1", []ends{{"-6", "6"}}}, {"10 -2", "-5 1", []ends{{"-6", "6"}}}, {"0 7", "0 1", []ends{{"-1", "1"}}}, {"0 0 0 2", "0 1", []ends{{"-1", "1"}}}, {"1 -2 1", "-1 1", []ends{{"-2", "2"}}},
		{"-2 0 1", "-2 0 1", []ends{{"-3", "0"}, {"0", "3"}}}, {"4 0 -4 0 1", "-2 0 1", []ends{{"-3", "0"}, {"0", "3"}}},
		// A root at the midpoint belongs to the lower half.
		{"0 -1 1", "0 -1 1", []ends{{"0", "0"}, {"0", "2"}}}, {"0 1 1", "0 1 1", []ends{{"-1", "-1"}, {"0", "0"}}}, {"0 -1 0 1", "0 -1 0 1", []ends{{"-1", "-1"}, {"0", "0"}, {"0", "2"}}},
		// A root at the midpoint of an interval with one root is not seen.
		{"0 1 0 1", "0 1 0 1", []ends{{"-2", "2"}}}, {"-1 0 0 1", "-1 0 0 1", []ends{{"-2", "2"}}},
		{"-6 11 -6 1", "-6 11 -6 1", []ends{{"0", "3/2"}, {"3/2", "9/4"}, {"3", "3"}}},
		{"2 -3 1", "2 -3 1", []ends{{"1", "1"}, {"2", "2"}}},
	} {
		var want []api.Root
		for _, w := range c.want {
			want = append(want, rootOf(c.free, w.lo, w.hi))
		}
		got, e := root.Isolate(read(c.c))
		sameRoots(t, "Isolate of "+c.c, got, e, want, api.OK)
	}
	got, e := root.Isolate(nil)
	sameRoots(t, "Isolate of zero", got, e, nil, api.ErrZero)
}

func TestIsolateAtRandom(t *testing.T) {
	s := source(10)
	for round := range 900 {
		p := s.product(s.upTo(4), s.upTo(5))
		if round%9 == 0 {
			p = s.integers(2+s.upTo(9), 10)
		}
		if len(p) == 0 {
			continue
		}
		got, e := root.Isolate(p.list())
		sameRoots(t, "Isolate of "+briefList(p.list()), got, e, p.isolate(), api.OK)
	}
}

// cluster returns a polynomial with roots that are close to each other, some of them complex.
func (s *source) cluster(center *big.Rat, digits int) coefs {
	p := parse("1")
	if s.upTo(1) == 0 {
		p = p.times(coefs{neg(center), whole(1)})
	}
	for range 1 + s.upTo(2) {
		at := plus(center, times(power(-digits), whole(s.upTo(8)-4)))
		factor := coefs{neg(at), whole(1)}
		switch s.upTo(3) {
		case 0:
			factor = factor.times(factor).plus(coefs{power(-2 * digits)})
		case 1:
			factor = factor.times(factor).minus(coefs{times(whole(2), power(-2*digits))})
		}
		p = p.times(factor)
	}
	return p
}

// TestIsolateClusters has roots that take many halvings: also ones next to 0, which is a midpoint.
func TestIsolateClusters(t *testing.T) {
	s := source(11)
	centers := []string{"0", "0", "1", "1/2", "1/3", "-5/7", "-1", "3", "-3/4"}
	for range 150 {
		p := s.cluster(fraction(centers[s.upTo(len(centers)-1)]), 1+s.upTo(70))
		if s.upTo(1) == 0 {
			p = p.times(s.cluster(fraction(centers[s.upTo(len(centers)-1)]), 1+s.upTo(30)))
		}
		got, e := root.Isolate(p.list())
		want := p.isolate()
		sameRoots(t, "Isolate of "+briefList(p.list()), got, e, want, api.OK)
		bound := p.bound()
		if len(fromBigRat(bound).Num) <= 200 {
			count, e := root.Count(p.list(), fromBigRat(neg(bound)), fromBigRat(bound))
			sameInt(t, "Count of "+briefList(p.list()), count, e, len(want), api.OK)
		}
	}
}

// TestIsolateFar has small roots under a great bound, or close ones: they take hundreds of halvings.
func TestIsolateFar(t *testing.T) {
	for _, p := range []coefs{
		roots("1", "2", "3").times(coefs{neg(power(700)), whole(1)}),
		roots("-1", "0", "1").times(coefs{power(700), whole(1)}),
		{whole(1), neg(power(2000)), whole(1)},
		roots("0").times(coefs{neg(power(-700)), whole(1)}),
		roots("0", "1").times(coefs{neg(power(-400)), whole(1)}),
		roots("0", "1").times(coefs{power(-400), whole(1)}),
		roots("1/3").times(coefs{neg(plus(fraction("1/3"), power(-400))), whole(1)}),
		// By Mignotte, with two real roots or two complex ones next to each other.
		monomial(whole(1), 5).minus(coefs{whole(-1), power(100)}.times(coefs{whole(-2), times(whole(2), power(100))})),
		monomial(whole(1), 5).plus(coefs{whole(-1), power(100)}.times(coefs{whole(-2), times(whole(2), power(100))})),
	} {
		got, e := root.Isolate(p.list())
		sameRoots(t, "Isolate of "+briefList(p.list()), got, e, p.isolate(), api.OK)
	}
}

// TestIsolateLimit has ends and polynomials that are too long for a Root.
func TestIsolateLimit(t *testing.T) {
	great := minus(power(maxBits), whole(1))
	s := source(12)
	for name, c := range map[string]struct {
		p    coefs
		want api.Errno
	}{
		"a bound of 200 words":                     {coefs{minus(whole(1), great), whole(1)}, api.OK},
		"a bound of 201 words":                     {coefs{neg(great), whole(1)}, api.ErrLimit},
		"a bound of 201 words and no root":         {coefs{great, whole(0), whole(1)}, api.OK},
		"a bound with a denominator of 200 words":  {coefs{neg(power(-6399)), whole(1)}, api.OK},
		"a long polynomial":                        {coefs{neg(power(3200)), whole(0), power(-3200)}, api.ErrLimit},
		"a long polynomial with a short bound":     {parse("0 -2 0 1").scaled(power(3200)).plus(coefs{power(-3200)}), api.ErrLimit},
		"an upper end alone of 201 words":          {roots("0").times(coefs{neg(great), whole(1)}), api.ErrLimit},
		"a lower end alone of 201 words":           {roots("0").times(coefs{great, whole(1)}), api.ErrLimit},
		"a root and complex ones too close to it":  {monomial(whole(1), 12).minus(coefs{whole(-1), power(1600)}.times(coefs{whole(-1), power(1600)}).times(coefs{whole(-1), power(1600)})), api.OK},
		"a long polynomial of odd degree":          {coefs{neg(power(3200)), power(-3200)}, api.ErrLimit},
		"a long polynomial without roots":          {coefs{power(3200), whole(0), power(-3200)}, api.OK},
		"a long polynomial of higher degree":       {coefs{power(3200), whole(0), whole(3), whole(0), power(-3200)}, api.OK},
		"the roots 0 and 2^-6000":                  {roots("0").times(coefs{neg(power(-6000)), whole(1)}), api.OK},
		"the roots 0 and -2^-6000":                 {roots("0").times(coefs{power(-6000), whole(1)}), api.ErrLimit},
		"the roots 0 and -2^-3000":                 {roots("0").times(coefs{power(-3000), whole(1)}), api.OK},
		"long numbers":                             {append(s.integers(11, 6300), whole(1)), api.OK},
		"the longest numbers":                      {s.integers(12, maxBits), api.ErrLimit},
		"roots too close, by Mignotte":             {monomial(whole(1), 40).minus(coefs{whole(-1), power(1600)}.times(coefs{whole(-2), power(1601)})), api.ErrLimit},
		"two pairs of roots too close":             {monomial(whole(1), 10).minus(coefs{whole(-1), whole(0), power(1600)}.times(coefs{whole(-2), whole(0), power(1601)})), api.ErrLimit},
		"complex roots just as close, by Mignotte": {monomial(whole(1), 40).plus(coefs{whole(-1), power(1600)}.times(coefs{whole(-2), power(1601)})), api.OK},
		"a root 0 and one too close to it":         {roots("0", "1").times(coefs{power(-6399), whole(1)}), api.ErrLimit},
	} {
		got, e := root.Isolate(c.p.list())
		if e != c.want || e != api.OK && len(got) > 0 {
			t.Errorf("Isolate with %s has %d roots and error %d", name, len(got), e)
		}
		for _, r := range got {
			if !root.ValidRoot(r) {
				t.Errorf("Isolate with %s has %s", name, briefRoot(r))
			}
		}
		if name == "a root and complex ones too close to it" && len(got) != 2 {
			t.Errorf("Isolate with %s has %d roots", name, len(got))
		}
		if len(c.p) < 6 && e == api.OK {
			sameRoots(t, "Isolate with "+name, got, e, c.p.isolate(), api.OK)
		}
	}
}
