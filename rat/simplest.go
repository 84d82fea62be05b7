package rat

import (
	"isochrone/api"
	"isochrone/nat"
)

// Simplest returns the number from a to b whose denominator is least, and among these the one with the least absolute value; ErrRange if a is greater than b.
func Simplest(a, b api.Rat) (api.Rat, api.Errno) {
	if !Valid(a) || !Valid(b) {
		return api.Rat{}, api.ErrForm
	}
	switch way := order(a, b); {
	case way > 0:
		return api.Rat{}, api.ErrRange
	case way == 0:
		return copied(a), api.OK
	case sign(a) > 0:
		return between(a, b), api.OK
	case sign(b) < 0:
		return opposite(between(opposite(b), opposite(a))), api.OK
	}
	return From(0), api.OK
}

// between needs 0 < a < b.
func between(a, b api.Rat) api.Rat {
	f := fraction{
		low:    ratio{a.Num, a.Den},
		high:   ratio{b.Num, b.Den},
		value:  ratio{nat.From(1), nil},
		before: ratio{nil, nat.From(1)},
	}
	for !f.extend() {
	}
	return signed(false, f.value.num, f.value.den)
}

// ratio is a pair of natural numbers; those of a fraction's start have a part that is zero.
type ratio struct{ num, den []uint32 }

// fraction is a continued fraction t0 + 1/(t1 + 1/(.. + 1/x)) on the way to the simplest number between two bounds: it lies between them if x lies between low and high, and it is simplest if x is.
type fraction struct {
	low, high ratio
	// value is what the terms so far make without x, before what they make without the last one.
	value, before ratio
}

// extend adds a term and reports whether it is the last one. It needs low < high; both stay above 0.
func (f *fraction) extend() bool {
	term, lowRest := divide(f.low.num, f.low.den)
	highRest := minus(f.high.num, times(term, f.high.den))
	last := true
	switch {
	case len(lowRest) == 0:
		// The bound itself is the least integer.
	case compare(highRest, f.high.den) >= 0:
		term = plus(term, nat.From(1))
	default:
		// Without an integer between the bounds, x is term + 1/y for a y between these.
		last = false
		f.low, f.high = ratio{f.high.den, highRest}, ratio{f.low.den, lowRest}
	}
	next := ratio{
		plus(times(term, f.value.num), f.before.num),
		plus(times(term, f.value.den), f.before.den),
	}
	f.value, f.before = next, f.value
	return last
}
