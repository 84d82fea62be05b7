package nat_test

import (
	"slices"
	"testing"

	"isochrone/api"
	"isochrone/nat"
)

// must returns the result of a call that may not fail.
func must(t *testing.T) func(r []uint32, e api.Errno) []uint32 {
	return func(r []uint32, e api.Errno) []uint32 {
		t.Helper()
		if e != api.OK {
			t.Fatalf("error %d", e)
		}
		return r
	}
}

// triples calls check with numbers of many lengths, zero among them.
func triples(check func(a, b, c []uint32)) {
	s := source(6)
	for range 1000 {
		check(s.magnitude(s.upTo(8)), s.magnitude(s.upTo(8)), s.magnitude(s.upTo(8)))
	}
}

func TestRingLaws(t *testing.T) {
	ok := must(t)
	triples(func(a, b, c []uint32) {
		if !slices.Equal(ok(nat.Add(a, b)), ok(nat.Add(b, a))) {
			t.Errorf("Add of %s and %s does not commute", brief(a), brief(b))
		}
		if !slices.Equal(ok(nat.Mul(a, b)), ok(nat.Mul(b, a))) {
			t.Errorf("Mul of %s and %s does not commute", brief(a), brief(b))
		}
		if !slices.Equal(ok(nat.Add(ok(nat.Add(a, b)), c)), ok(nat.Add(a, ok(nat.Add(b, c))))) {
			t.Errorf("Add of %s, %s and %s is not associative", brief(a), brief(b), brief(c))
		}
		if !slices.Equal(ok(nat.Mul(ok(nat.Mul(a, b)), c)), ok(nat.Mul(a, ok(nat.Mul(b, c))))) {
			t.Errorf("Mul of %s, %s and %s is not associative", brief(a), brief(b), brief(c))
		}
		if !slices.Equal(ok(nat.Mul(a, ok(nat.Add(b, c)))), ok(nat.Add(ok(nat.Mul(a, b)), ok(nat.Mul(a, c))))) {
			t.Errorf("Mul of %s does not distribute over %s and %s", brief(a), brief(b), brief(c))
		}
	})
}

func TestQuotientAndRemainder(t *testing.T) {
	ok := must(t)
	triples(func(a, b, _ []uint32) {
		if len(b) == 0 {
			return
		}
		q, r, e := nat.DivMod(a, b)
		if order, _ := nat.Cmp(r, b); e != api.OK || order >= 0 {
			t.Errorf("the remainder of %s by %s is %s, with error %d", brief(a), brief(b), brief(r), e)
		}
		same(t, "quotient times divisor plus remainder", ok(nat.Add(ok(nat.Mul(q, b)), r)), api.OK, a, api.OK)
	})
}

// divides reports whether d divides a.
func divides(t *testing.T, d, a []uint32) bool {
	t.Helper()
	if len(d) == 0 {
		return len(a) == 0
	}
	_, r, e := nat.DivMod(a, d)
	return e == api.OK && len(r) == 0
}

func TestGreatestCommonDivisor(t *testing.T) {
	ok := must(t)
	triples(func(a, b, c []uint32) {
		g := ok(nat.GCD(ok(nat.Mul(a, c)), ok(nat.Mul(b, c))))
		if !divides(t, g, ok(nat.Mul(a, c))) || !divides(t, g, ok(nat.Mul(b, c))) {
			t.Errorf("%s is no common divisor", brief(g))
		}
		if !divides(t, c, g) {
			t.Errorf("the common divisor %s does not divide %s", brief(c), brief(g))
		}
		same(t, "GCD", ok(nat.GCD(b, a)), api.OK, ok(nat.GCD(a, b)), api.OK)
	})
}

func TestRoundTrips(t *testing.T) {
	ok := must(t)
	triples(func(a, b, _ []uint32) {
		text, e := nat.Text(a)
		if e != api.OK {
			t.Fatalf("Text is error %d", e)
		}
		same(t, "Parse of Text", ok(nat.Parse(text)), api.OK, a, api.OK)
		n := len(b) * 19
		same(t, "Shift and back", ok(nat.Shift(ok(nat.Shift(a, n)), -n)), api.OK, a, api.OK)
		sum := ok(nat.Add(a, b))
		same(t, "Add and Sub", ok(nat.Sub(sum, b)), api.OK, a, api.OK)
	})
	long := power(2000)
	same(t, "Shift and back", ok(nat.Shift(ok(nat.Shift(long, 129071)), -129071)), api.OK, long, api.OK)
}
