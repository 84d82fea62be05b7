package rat_test

import (
	"math/big"
	"testing"

	"isochrone/api"
	"isochrone/rat"
)

// triples calls check with short and long numbers.
func triples(check func(a, b, c api.Rat)) {
	s := source(10)
	for range 300 {
		check(fromBigRat(s.small()), fromBigRat(s.small()), fromBigRat(s.small()))
		check(fromBigRat(s.number(5)), fromBigRat(s.small()), fromBigRat(s.number(3)))
	}
}

func TestFieldLaws(t *testing.T) {
	ok := must(t)
	zero, one := rat.From(0), rat.From(1)
	triples(func(a, b, c api.Rat) {
		same(t, "b + a", ok(rat.Add(b, a)), api.OK, ok(rat.Add(a, b)), api.OK)
		same(t, "b * a", ok(rat.Mul(b, a)), api.OK, ok(rat.Mul(a, b)), api.OK)
		same(t, "a + (b + c)", ok(rat.Add(a, ok(rat.Add(b, c)))), api.OK, ok(rat.Add(ok(rat.Add(a, b)), c)), api.OK)
		same(t, "a * (b * c)", ok(rat.Mul(a, ok(rat.Mul(b, c)))), api.OK, ok(rat.Mul(ok(rat.Mul(a, b)), c)), api.OK)
		same(t, "a * (b + c)", ok(rat.Mul(a, ok(rat.Add(b, c)))), api.OK, ok(rat.Add(ok(rat.Mul(a, b)), ok(rat.Mul(a, c)))), api.OK)
		same(t, "a + 0", ok(rat.Add(a, zero)), api.OK, a, api.OK)
		same(t, "a * 1", ok(rat.Mul(a, one)), api.OK, a, api.OK)
		same(t, "a + -a", ok(rat.Add(a, ok(rat.Neg(a)))), api.OK, zero, api.OK)
		same(t, "a - b", ok(rat.Sub(a, b)), api.OK, ok(rat.Add(a, ok(rat.Neg(b)))), api.OK)
		if len(b.Num) > 0 {
			same(t, "a / b * b", ok(rat.Mul(ok(rat.Div(a, b)), b)), api.OK, a, api.OK)
			same(t, "b * b^-1", ok(rat.Mul(b, ok(rat.Pow(b, -1)))), api.OK, one, api.OK)
		}
		same(t, "a^3", ok(rat.Pow(a, 3)), api.OK, ok(rat.Mul(a, ok(rat.Mul(a, a)))), api.OK)
	})
}

func TestOrderLaws(t *testing.T) {
	ok := must(t)
	cmp := func(a, b api.Rat) int {
		way, e := rat.Cmp(a, b)
		if e != api.OK {
			t.Fatalf("error %d", e)
		}
		return way
	}
	triples(func(a, b, c api.Rat) {
		way := cmp(a, b)
		if cmp(b, a) != -way {
			t.Errorf("Cmp of %s and %s is not that backwards", brief(a), brief(b))
		}
		if difference, _ := rat.Sign(ok(rat.Sub(a, b))); difference != way {
			t.Errorf("Cmp of %s and %s is not the sign of the difference", brief(a), brief(b))
		}
		if cmp(ok(rat.Add(a, c)), ok(rat.Add(b, c))) != way {
			t.Errorf("Add of %s changes the order of %s and %s", brief(c), brief(a), brief(b))
		}
		if factor, _ := rat.Sign(c); cmp(ok(rat.Mul(a, c)), ok(rat.Mul(b, c))) != way*factor {
			t.Errorf("Mul by %s does not keep the order of %s and %s", brief(c), brief(a), brief(b))
		}
		if middle := ok(rat.Mid(a, b)); cmp(a, middle) != way || cmp(middle, b) != way {
			t.Errorf("Mid of %s and %s is not between them", brief(a), brief(b))
		}
	})
}

func TestRoundingLaws(t *testing.T) {
	ok := must(t)
	k := 0
	triples(func(a, _, _ api.Rat) {
		k = (k + 7) % 90
		down, up := ok(rat.Down(a, k)), ok(rat.Up(a, k))
		below, e := rat.Cmp(down, a)
		above, f := rat.Cmp(a, up)
		if below > 0 || above > 0 || e != api.OK || f != api.OK {
			t.Errorf("%s is not from Down to Up", brief(a))
		}
		if way, _ := rat.Cmp(ok(rat.Sub(up, down)), over(big.NewInt(1), power(uint(k), 0))); way > 0 {
			t.Errorf("Down and Up of %s are too far apart", brief(a))
		}
		same(t, "Down of Down", ok(rat.Down(down, k)), api.OK, down, api.OK)
		same(t, "Up of Up", ok(rat.Up(up, k)), api.OK, up, api.OK)
		same(t, "Floor", ok(rat.Floor(a)), api.OK, ok(rat.Down(a, 0)), api.OK)
	})
}

func TestSimplestLaws(t *testing.T) {
	ok := must(t)
	triples(func(a, b, _ api.Rat) {
		same(t, "Simplest of one number", ok(rat.Simplest(a, a)), api.OK, a, api.OK)
		if way, _ := rat.Cmp(a, b); way > 0 {
			a, b = b, a
		}
		q := ok(rat.Simplest(a, b))
		low, e := rat.Cmp(a, q)
		high, f := rat.Cmp(q, b)
		if low > 0 || high > 0 || e != api.OK || f != api.OK {
			t.Errorf("Simplest of %s and %s is %s", brief(a), brief(b), brief(q))
		}
		same(t, "Simplest with its result as a bound", ok(rat.Simplest(a, q)), api.OK, q, api.OK)
		same(t, "Simplest of opposites", ok(rat.Simplest(negative(b), negative(a))), api.OK, negative(q), api.OK)
	})
}

func TestRoundTrips(t *testing.T) {
	ok := must(t)
	triples(func(a, b, _ api.Rat) {
		text, e := rat.Text(a)
		if e != api.OK {
			t.Fatalf("Text is error %d", e)
		}
		same(t, "Parse of Text", ok(rat.Parse(text)), api.OK, a, api.OK)
		same(t, "Make of parts", ok(rat.Make(a.Neg, a.Num, a.Den)), api.OK, a, api.OK)
		same(t, "Add and Sub", ok(rat.Sub(ok(rat.Add(a, b)), b)), api.OK, a, api.OK)
	})
}
