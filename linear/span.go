package linear

import "isochrone/wide"

// end is an end of a span: a number, which does not belong to the span if it is open.
type end struct {
	at            wide.Num
	isEnd, isOpen bool
}

// span is an interval of numbers, without an end at a side that is infinite.
type span struct {
	lower, upper end
}

// spanOf returns the numbers that variable i may have beside the given numbers of the others. It needs rows without coefficients of variables that have no number yet; what stands in the point for variable i itself is zero.
func spanOf(rows []row, point []wide.Num, i int) span {
	var s span
	for _, r := range rows {
		if r.coef(i).IsZero() {
			continue
		}
		bound := r.bound()
		for k, x := range point {
			bound = bound.Add(r.coef(k).Mul(x).Neg())
		}
		e := end{bound.Quo(r.coef(i)), true, r.rel == less}
		if r.rel == equal || r.coef(i).Sign() > 0 {
			s.upper = s.upper.tighter(e, -1)
		}
		if r.rel == equal || r.coef(i).Sign() < 0 {
			s.lower = s.lower.tighter(e, 1)
		}
	}
	return s
}

// tighter returns the one of two ends that leaves fewer numbers. The way is 1 for lower ends and -1 for upper ends.
func (e end) tighter(f end, way int) end {
	switch {
	case !e.isEnd:
		return f
	case e.at.Cmp(f.at) == 0:
		return end{e.at, true, e.isOpen || f.isOpen}
	case e.at.Cmp(f.at) == way:
		return e
	}
	return f
}

func (s span) isEmpty() bool {
	if !s.lower.isEnd || !s.upper.isEnd {
		return false
	}
	order := s.lower.at.Cmp(s.upper.at)
	return order > 0 || order == 0 && (s.lower.isOpen || s.upper.isOpen)
}

// simplest returns the number of a span, which may not be empty, whose denominator is least, and among these the one of the least size.
func (s span) simplest() wide.Num {
	switch {
	case !s.lower.isEnd && !s.upper.isEnd:
		return wide.Num{}
	case !s.lower.isEnd:
		return s.mirrored().simplest().Neg()
	case !s.upper.isEnd:
		// Up to here there is an integer of the least size.
		s.upper = end{s.lower.at.Add(wide.Int(2)), true, true}
		if s.lower.at.Sign() < 0 {
			s.upper.at = wide.Int(2)
		}
	case s.lower.at.Cmp(s.upper.at) == 0:
		return s.lower.at
	}
	best := wide.Between(s.lower.at, s.upper.at)
	for _, e := range [...]end{s.lower, s.upper} {
		if !e.isOpen && isSimpler(e.at, best) {
			best = e.at
		}
	}
	return best
}

// mirrored returns the opposite numbers.
func (s span) mirrored() span {
	s.lower.at, s.upper.at = s.lower.at.Neg(), s.upper.at.Neg()
	return span{s.upper, s.lower}
}

func isSimpler(a, b wide.Num) bool {
	order := a.Denominator().Cmp(b.Denominator())
	return order < 0 || order == 0 && a.Abs().Cmp(b.Abs()) < 0
}
