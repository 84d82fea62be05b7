package root

import (
	"isochrone/api"
	"isochrone/wide"
)

// Count returns the number of different real roots of c that are greater than lo and at most hi: ErrForm, then ErrZero if c is zero, then ErrRange if lo is greater than hi.
func Count(c []api.Rat, lo, hi api.Rat) (int, api.Errno) {
	if !Valid(c) || !validNumber(lo) || !validNumber(hi) {
		return 0, api.ErrForm
	}
	if len(c) == 0 {
		return 0, api.ErrZero
	}
	in := intervalOf(wide.Of(lo), wide.Of(hi))
	if in.width().Sign() < 0 {
		return 0, api.ErrRange
	}
	p, _ := load(c).whole()
	return p.squareFree().count(in), api.OK
}

// Isolate returns all real roots of c in ascending order: ErrForm, then ErrZero if c is zero, then ErrLimit.
func Isolate(c []api.Rat) ([]api.Root, api.Errno) {
	if !Valid(c) {
		return nil, api.ErrForm
	}
	if len(c) == 0 {
		return nil, api.ErrZero
	}
	p, monic := load(c).free()
	bound := monic.bound()
	around := intervalOf(bound.Neg(), bound)
	if !monic.fits() {
		if p.count(around) > 0 {
			return nil, api.ErrLimit
		}
		return nil, api.OK
	}
	found, short := p.isolate(around)
	if !short {
		return nil, api.ErrLimit
	}
	return storeRoots(monic, found)
}

func storeRoots(monic list, found []interval) ([]api.Root, api.Errno) {
	roots := make([]api.Root, len(found))
	for i, in := range found {
		r, e := storeRoot(monic, in)
		if e != api.OK {
			return nil, e
		}
		roots[i] = r
	}
	return roots, api.OK
}

// storeRoot returns a Root if its ends are short enough.
func storeRoot(monic list, in interval) (api.Root, api.Errno) {
	lo, hi := in.low(), in.high()
	if !lo.Fits(maxWords) || !hi.Fits(maxWords) {
		return api.Root{}, api.ErrLimit
	}
	return api.Root{Poly: monic.rats(), Lo: lo.Rat(), Hi: hi.Rat()}, api.OK
}

// count returns the number of roots of a polynomial of integers that are greater than the lower end and at most the upper end. The roots need to be simple.
func (p list) count(in interval) int {
	if p.degree() == 0 || in.isPoint() {
		return 0
	}
	return p.countOver(shapeOver(p, in), in, someWork)
}

// countOver is count with the shape of p over the interval, and with the work that a chain may take.
func (p list) countOver(b shape, in interval, work int) int {
	if count, known := b.few(); known {
		return count
	}
	if c, short := sturm(p, work); short {
		return c.count(in)
	}
	found, _ := p.search(b, in, false)
	return len(found)
}

// isolate returns the intervals of the roots of a polynomial of integers, in ascending order, as the chapter describes them: a point if the root is known, and otherwise an interval whose ends do not count. The roots need to be simple and to lie inside of the given interval. It reports false if there is an end that is too long for a result.
func (p list) isolate(around interval) (found []interval, short bool) {
	if p.degree() == 0 {
		return nil, true
	}
	return p.search(shapeOver(p, around), around, true)
}

// search is isolate for an interval with its shape. Only if it is limited, it gives up when ends become too long.
//
// Instead of counting the roots of an interval before it is halved, it halves the interval if it may have more than one root, and takes that back if there is no more than one. When some halvings did not tell any roots apart, it tries to jump over some more at once; reach is their number.
func (p list) search(b shape, in interval, limited bool) (found []interval, short bool) {
	short = true
	var find finder
	find = func(b shape, in interval, reach int) []interval {
		if !short {
			return nil
		}
		ends := b.endsInRoot()
		count, known := b.few()
		if !known && limited && in.isFinest() {
			count, known = p.countOver(b, in, muchWork), true
			short = count <= 1
		}
		if known {
			return in.roots(count, ends)
		}
		var found []interval
		if number, c, ok := b.jump(reach); ok {
			found = find(c, in.part(number, reach), 2*reach)
		} else {
			found = findInHalves(b, in, reach, find)
		}
		if len(found) == 1 {
			return in.roots(1, ends)
		}
		return found
	}
	found = find(b, in, 1)
	return found, short
}

// finder returns the intervals of the roots in an interval with its shape.
type finder func(b shape, in interval, reach int) []interval

func findInHalves(b shape, in interval, reach int, find finder) []interval {
	if reach >= leastJump {
		// A jump failed.
		reach /= 2
	}
	lower, upper := in.halves()
	below, above := b.halves()
	lowReach, highReach := nextReach(b, below, reach), nextReach(b, above, reach)
	var high []interval
	if count, known := above.few(); known {
		// Deep down, there is no room for shapes that are done with.
		high = upper.roots(count, above.endsInRoot())
		above = nil
	}
	found := find(below, lower, lowReach)
	if above != nil {
		high = find(above, upper, highReach)
	}
	return append(found, high...)
}

// nextReach returns the reach for a half of an interval with shape b.
func nextReach(b, half shape, reach int) int {
	if half.changes() < b.changes() {
		return 1
	}
	return reach + 1
}

// roots returns what isolate says of an interval with no root or one.
func (v interval) roots(count int, ends bool) []interval {
	switch {
	case count == 0:
		return nil
	case ends:
		return []interval{v.end()}
	}
	return []interval{v}
}

// isFinest reports whether no two roots in v have valid intervals that keep them apart: with each halving from the outermost interval on, the denominators of the midpoints have one more factor 2.
func (v interval) isFinest() bool {
	middle := v.lo.Add(v.hi)
	return !middle.IsZero() && v.den.Zeros()+1-middle.Zeros() >= 32*maxWords
}
