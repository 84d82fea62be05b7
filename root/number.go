package root

import (
	"isochrone/api"
	"isochrone/wide"
)

// ValidRoot reports whether r is a valid Root.
func ValidRoot(r api.Root) bool {
	_, ok := loadRoot(r)
	return ok
}

// Rational returns the Root of a rational number.
func Rational(x api.Rat) (api.Root, api.Errno) {
	if !validNumber(x) {
		return api.Root{}, api.ErrForm
	}
	value := wide.Of(x)
	monic := list{value.Neg(), wide.Int(1)}
	return api.Root{Poly: monic.rats(), Lo: value.Rat(), Hi: value.Rat()}, api.OK
}

// Halve returns r with the half of its interval: ErrForm, then ErrLimit if the midpoint is too long.
func Halve(r api.Root) (api.Root, api.Errno) {
	a, ok := loadRoot(r)
	if !ok {
		return api.Root{}, api.ErrForm
	}
	if !a.isPoint() {
		a = a.halved()
	}
	return storeRoot(load(r.Poly), a.interval)
}

// Sign returns the sign of c at the number of r.
func Sign(c []api.Rat, r api.Root) (int, api.Errno) {
	a, ok := loadRoot(r)
	if !ok || !Valid(c) {
		return 0, api.ErrForm
	}
	if len(c) == 0 {
		return 0, api.OK
	}
	p, _ := load(c).whole()
	return a.signOf(p), api.OK
}

// Cmp returns -1, 0 or 1 as the number of a is less than, equal to or greater than that of b.
func Cmp(a, b api.Root) (int, api.Errno) {
	x, okA := loadRoot(a)
	y, okB := loadRoot(b)
	if !okA || !okB {
		return 0, api.ErrForm
	}
	return x.compare(y), api.OK
}

// number is the number of a Root: the only root of a polynomial of integers inside of the interval, or its one point. The upper end is no root, unless it is a point; top is the sign of the polynomial there.
type number struct {
	poly list
	interval
	top int
	// reach is the number of halvings that narrowed tries to do at once.
	reach int
}

// loadRoot returns the number of r, or false if r is not valid.
func loadRoot(r api.Root) (number, bool) {
	if len(r.Poly) < 2 || !Valid(r.Poly) || !validNumber(r.Lo) || !validNumber(r.Hi) {
		return number{}, false
	}
	monic, lo, hi := load(r.Poly), wide.Of(r.Lo), wide.Of(r.Hi)
	if monic.last().Cmp(wide.Int(1)) != 0 || lo.Cmp(hi) > 0 {
		return number{}, false
	}
	p, _ := monic.whole()
	in := intervalOf(lo, hi)
	if !p.isSquareFree() || !p.hasOneRoot(in) {
		return number{}, false
	}
	return number{p, in, p.signAt(in.hi, in.den), 1}, true
}

// hasOneRoot reports whether an interval is a root, or has exactly one inside and none at its upper end. The roots need to be simple.
func (p list) hasOneRoot(in interval) bool {
	if in.isPoint() {
		return p.signAt(in.hi, in.den) == 0
	}
	b := shapeOver(p, in)
	// With an even number of changes of sign, the number of roots is even.
	return !b.endsInRoot() && b.changes()%2 == 1 && p.countOver(b, in, someWork) == 1
}

// to returns -1, 0 or 1 as the number is less than, equal to or greater than num/den, with den > 0.
func (a number) to(num, den wide.Num) int {
	at := interval{num, num, den}
	switch {
	case a.isPoint():
		return a.hi.Mul(den).Cmp(num.Mul(a.den))
	case a.isBelow(at):
		return -1
	case at.isBelow(a.interval):
		return 1
	}
	switch a.poly.signAt(num, den) {
	case 0:
		return 0
	case a.top:
		// There is no root from here to the upper end.
		return -1
	}
	return 1
}

// halved returns the number with the half of its interval that has it: the midpoint alone if this is the number.
func (a number) halved() number {
	lower, upper := a.halves()
	switch a.to(lower.hi, lower.den) {
	case -1:
		a.interval = lower
	case 0:
		a.interval = lower.end()
	default:
		a.interval = upper
	}
	return a
}

// narrowed returns the number with a shorter interval: shorter by 2^reach if the number is in the part of the interval that is likely to have it, and otherwise with the half of it. The reach follows the success, so that near the number it is doubled every time.
func (a number) narrowed() number {
	slope := a.poly.derivative()
	low, lowSlope := a.poly.at(a.lo, a.den), slope.at(a.lo, a.den)
	high, highSlope := a.poly.at(a.hi, a.den), slope.at(a.hi, a.den)
	part := a.part(likelyPart(low, lowSlope, high, highSlope, a.reach), a.reach)
	fromLow, fromHigh := a.to(part.lo, part.den), a.to(part.hi, part.den)
	switch {
	case fromLow == 0:
		a.interval = interval{part.lo, part.lo, part.den}
	case fromHigh == 0:
		a.interval = part.end()
	case fromLow > 0 && fromHigh < 0:
		a.interval = part
		a.reach *= 2
	default:
		a = a.halved()
		a.reach = max(a.reach/2, 1)
	}
	return a
}

// signOf returns the sign of a polynomial of integers, not zero, at the number.
func (a number) signOf(p list) int {
	if a.isPoint() {
		return p.signAt(a.hi, a.den)
	}
	b := shapeOver(p, a.interval)
	if b.changes() > 0 && sharesRoot(a.poly, p, a.interval) {
		return 0
	}
	for b.changes() > 0 {
		a = a.narrowed()
		if a.isPoint() {
			return p.signAt(a.hi, a.den)
		}
		b = shapeOver(p, a.interval)
	}
	return b.sign()
}

// sharesRoot reports whether a root of p in an interval, of which there is at most one and that is simple, is also a root of q. The interval may not be a point.
func sharesRoot(p, q list, in interval) bool {
	divisor := commonDivisor(p, q)
	// With at most one root inside, there is one if the number of changes of sign is odd.
	return divisor.degree() > 0 && shapeOver(divisor, in).changes()%2 == 1
}

// compare returns -1, 0 or 1 as a is less than, equal to or greater than b.
func (a number) compare(b number) int {
	switch {
	case b.isPoint():
		return a.to(b.hi, b.den)
	case a.isPoint():
		return -b.to(a.hi, a.den)
	case a.meets(b) && sharesRoot(a.poly, b.poly, a.common(b.interval)):
		return 0
	}
	for a.meets(b) {
		if b.isWider(a.interval) {
			b = b.narrowed()
		} else {
			a = a.narrowed()
		}
	}
	if a.isBelow(b.interval) {
		return -1
	}
	return 1
}

// meets reports whether the intervals do not tell which number is the greater one.
func (a number) meets(b number) bool {
	return !a.isBelow(b.interval) && !b.isBelow(a.interval)
}
