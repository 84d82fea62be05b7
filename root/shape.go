package root

import (
	"slices"

	"isochrone/wide"
)

// shape is a polynomial over an interval: its coefficients in Bernstein's basis there, up to a positive factor. The first one is its value at the lower end, and the last one at the upper end. It has at most as many roots inside of the interval, each counted as often as it is one, as its coefficients change their sign, and an even number less if it has less (Descartes). The shapes over the halves of an interval are found by additions alone.
type shape list

// shapeOver returns the shape of a polynomial of integers over an interval that is no point.
func shapeOver(p list, in interval) shape {
	if in.hi.Abs().Cmp(in.lo.Abs()) < 0 {
		// The numbers are shorter with the smaller end as the lower one.
		return shapeOver(p.mirrored(), interval{in.hi.Neg(), in.lo.Neg(), in.den}).reversed()
	}
	n := p.degree()
	// With x = (lo + t*(hi - lo)) / den, first p times den^n as a polynomial in t from 0 to 1.
	q, power := slices.Clone(p), wide.Int(1)
	for i := n; i >= 0; i-- {
		q[i] = q[i].Mul(power)
		power = power.Mul(in.den)
	}
	q = q.moved(in.lo)
	power = wide.Int(1)
	for i := range q {
		q[i] = q[i].Mul(power)
		power = power.Mul(in.width())
	}
	// Then with t = v / (u + v) as a polynomial in u and v, whose coefficients are those in Bernstein's basis times n! / (i! * (n-i)!).
	slices.Reverse(q)
	q = q.moved(wide.Int(1))
	slices.Reverse(q)
	factorials := []wide.Num{wide.Int(1)}
	for i := range n {
		factorials = append(factorials, factorials[i].Mul(wide.Int(i+1)))
	}
	for i := range q {
		q[i] = q[i].Mul(factorials[i]).Mul(factorials[n-i])
	}
	return shape(q).lowered()
}

// mirrored returns p(-x).
func (p list) mirrored() list {
	q := slices.Clone(p)
	for i := range q {
		if i%2 == 1 {
			q[i] = q[i].Neg()
		}
	}
	return q
}

// moved returns p(x + a).
func (p list) moved(a wide.Num) list {
	q := slices.Clone(p)
	for i := range q {
		for k := len(q) - 2; k >= i; k-- {
			q[k] = q[k].Add(q[k+1].Mul(a))
		}
	}
	return q
}

// lowered divides by the greatest power of 2 that divides all coefficients.
func (b shape) lowered() shape {
	places := -1
	for _, x := range b {
		if !x.IsZero() && (places < 0 || x.Zeros() < places) {
			places = x.Zeros()
		}
	}
	for i, x := range b {
		b[i] = x.Shift(-places)
	}
	return b
}

// halves returns the shapes over the two halves of the interval, by de Casteljau's means: all of them times 2 instead of halved, and so times 2^n in the end.
func (b shape) halves() (lower, upper shape) {
	n := len(b) - 1
	rest := slices.Clone(b)
	lower, upper = make(shape, len(b)), make(shape, len(b))
	for k := range b {
		lower[k] = rest[0].Shift(n - k)
		upper[n-k] = rest[n-k].Shift(n - k)
		for i := range n - k {
			rest[i] = rest[i].Add(rest[i+1])
		}
	}
	return lower.lowered(), upper.lowered()
}

// changes returns the number of changes of sign.
func (b shape) changes() int {
	return list(b).changes()
}

// sign returns the sign inside of the interval of a shape that has no changes of sign.
func (b shape) sign() int {
	first := slices.IndexFunc(b, func(x wide.Num) bool { return !x.IsZero() })
	return b[first].Sign()
}

// endsInRoot reports whether the upper end is a root.
func (b shape) endsInRoot() bool {
	return b[len(b)-1].IsZero()
}

// few returns the number of roots above the lower end and up to the upper end if it is clear without halving. The roots need to be simple.
func (b shape) few() (count int, known bool) {
	switch changes := b.changes(); {
	case changes == 0 && b.endsInRoot():
		return 1, true
	case changes <= 1 && !b.endsInRoot():
		return changes, true
	}
	return 0, false
}

// leastJump is the least reach with which a jump is tried.
const leastJump = 8

// jump returns the number of a part of the interval that has all its roots, with its shape, if it finds one that is shorter by 2^reach.
func (b shape) jump(reach int) (number wide.Num, c shape, ok bool) {
	if reach < leastJump {
		return wide.Num{}, nil, false
	}
	n := len(b) - 1
	number = likelyPart(b[0], b[1].Add(b[0].Neg()), b[n], b[n].Add(b[n-1].Neg()), reach)
	c = b.part(number, reach)
	// The parts of an interval have no more changes of sign and roots between them than the whole: if this one has all changes, then the others have no root, but for the upper end.
	ok = c.changes() == b.changes() && c.endsInRoot() == b.endsInRoot()
	return number, c, ok
}

// part returns the shape over the part of the given number, from 0 upwards, of 2^places parts of equal length.
func (b shape) part(number wide.Num, places int) shape {
	mirrored := lastPart(places).Add(number.Neg())
	if mirrored.Cmp(number) < 0 {
		// The numbers are shorter from the other end.
		return b.reversed().part(mirrored, places).reversed()
	}
	unit := interval{wide.Num{}, wide.Int(1), wide.Int(1)}
	return shapeOver(b.polynomial(), unit.part(number, places))
}

func lastPart(places int) wide.Num {
	return wide.Int(1).Shift(places).Add(wide.Int(-1))
}

// reversed returns the shape of the polynomial with the interval turned round.
func (b shape) reversed() shape {
	c := slices.Clone(b)
	slices.Reverse(c)
	return c
}

// polynomial returns a polynomial of integers that has the shape b from 0 to 1.
func (b shape) polynomial() list {
	q := slices.Clone(list(b))
	n := q.degree()
	binomial := wide.Int(1)
	for i := range q {
		for k := n; k > i; k-- {
			q[k] = q[k].Add(q[k-1].Neg())
		}
		q[i] = q[i].Mul(binomial)
		binomial, _ = binomial.Mul(wide.Int(n - i)).DivMod(wide.Int(i + 1))
	}
	return q
}

// likelyPart returns the number of the one of 2^places equal parts of an interval in which the roots of a polynomial are likely to be, if they are close to each other. It takes the values and the slopes at the ends. A k-fold root has the distance k*value/slope from an end, by Newton; as both ends need to agree, k is not needed.
func likelyPart(low, lowSlope, high, highSlope wide.Num, places int) wide.Num {
	// For a guess, some more digits than those of its result are enough.
	digits := places + 64
	above := leading(low, digits).Mul(leading(highSlope, digits))
	below := above.Add(leading(high, digits).Mul(leading(lowSlope, digits)).Neg())
	if below.Sign() < 0 {
		above, below = above.Neg(), below.Neg()
	}
	switch {
	case above.Sign() <= 0:
		return wide.Num{}
	case above.Cmp(below) >= 0:
		return lastPart(places)
	}
	part, _ := above.Shift(places).DivMod(below)
	return part
}

// leading returns an integer with zeros instead of all but its leading binary digits.
func leading(a wide.Num, digits int) wide.Num {
	places := max(a.Bits()-digits, 0)
	return a.Shift(-places).Shift(places)
}
