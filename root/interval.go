package root

import "isochrone/wide"

// interval is an interval of real numbers, from lo/den to hi/den. Its numbers are integers with den > 0 and without a need for lowest terms, so that it is quickly halved.
type interval struct {
	lo, hi, den wide.Num
}

// intervalOf takes the ends.
func intervalOf(lo, hi wide.Num) interval {
	dens := wide.GCD(lo.Denominator(), hi.Denominator())
	own, _ := hi.Denominator().DivMod(dens)
	den := lo.Denominator().Mul(own)
	return interval{lo.Mul(den), hi.Mul(den), den}
}

func (v interval) low() wide.Num {
	return v.lo.Quo(v.den)
}

func (v interval) high() wide.Num {
	return v.hi.Quo(v.den)
}

// width returns hi - lo.
func (v interval) width() wide.Num {
	return v.hi.Add(v.lo.Neg())
}

// isPoint reports whether the ends are the same.
func (v interval) isPoint() bool {
	return v.lo.Cmp(v.hi) == 0
}

// end returns the interval from hi to hi.
func (v interval) end() interval {
	return interval{v.hi, v.hi, v.den}
}

// halves returns the parts below and above the midpoint, with one denominator.
func (v interval) halves() (lower, upper interval) {
	middle := v.lo.Add(v.hi)
	if middle.Zeros() > 0 || middle.IsZero() {
		middle = middle.Shift(-1)
	} else {
		v = interval{v.lo.Shift(1), v.hi.Shift(1), v.den.Shift(1)}
	}
	return interval{v.lo, middle, v.den}, interval{middle, v.hi, v.den}
}

// part returns the part of the given number, from 0 upwards, of 2^places parts of equal length.
func (v interval) part(number wide.Num, places int) interval {
	lo := v.lo.Shift(places).Add(v.width().Mul(number))
	return interval{lo, lo.Add(v.width()), v.den.Shift(places)}
}

// isBelow reports whether no number of v is greater than one of w.
func (v interval) isBelow(w interval) bool {
	return v.hi.Mul(w.den).Cmp(w.lo.Mul(v.den)) <= 0
}

// isWider reports whether v is longer than w.
func (v interval) isWider(w interval) bool {
	return v.width().Mul(w.den).Cmp(w.width().Mul(v.den)) > 0
}

// common returns what v and w have in common. It needs two intervals of which none is below the other one.
func (v interval) common(w interval) interval {
	// With one denominator for all ends.
	a, b := v.scaled(w.den), w.scaled(v.den)
	if a.lo.Cmp(b.lo) < 0 {
		a.lo = b.lo
	}
	if a.hi.Cmp(b.hi) > 0 {
		a.hi = b.hi
	}
	return a
}

// scaled returns v with its numbers times c > 0.
func (v interval) scaled(c wide.Num) interval {
	return interval{v.lo.Mul(c), v.hi.Mul(c), v.den.Mul(c)}
}
