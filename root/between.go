package root

import (
	"slices"

	"isochrone/api"
	"isochrone/wide"
)

// Between returns a rational number strictly between the numbers of a and b: ErrForm, then ErrRange unless that of a is less than that of b, then ErrLimit if there is none of at most MaxWords words.
func Between(a, b api.Root) (api.Rat, api.Errno) {
	x, okA := loadRoot(a)
	y, okB := loadRoot(b)
	if !okA || !okB {
		return api.Rat{}, api.ErrForm
	}
	if x.compare(y) >= 0 {
		return api.Rat{}, api.ErrRange
	}
	return storeNumber(between(x, y))
}

// between returns the simplest number strictly between a and b, with a < b. It is the simplest one in an interval around both of them, too, once this is short enough and a or b is known if it is simpler itself.
func between(a, b number) wide.Num {
	for {
		q := simplest(a.low(), b.high())
		num, den := q.Numerator(), q.Denominator()
		orderA, orderB := a.to(num, den), b.to(num, den)
		switch {
		case orderA < 0 && orderB > 0:
			return q
		case orderA == 0:
			a.interval = interval{num, num, den}
		case orderA > 0:
			a = a.narrowed()
		case orderB == 0:
			b.interval = interval{num, num, den}
		default:
			b = b.narrowed()
		}
	}
}

// simplest returns the number strictly between lo < hi whose denominator is least, and among these the one of the least size.
func simplest(lo, hi wide.Num) wide.Num {
	switch {
	case lo.Sign() < 0 && hi.Sign() > 0:
		return wide.Num{}
	case lo.Sign() < 0:
		return simplest(hi.Neg(), lo.Neg()).Neg()
	}
	// The numbers are a/b and c/d; d may become 0, which stands for no upper end.
	a, b, c, d := lo.Numerator(), lo.Denominator(), hi.Numerator(), hi.Denominator()
	var terms []wide.Num
	for {
		whole, rest := a.DivMod(b)
		above := whole.Add(wide.Int(1))
		if above.Mul(d).Cmp(c) < 0 {
			terms = append(terms, above)
			return fraction(terms)
		}
		terms = append(terms, whole)
		// What is left is between 0 and 1: go on with the inverses.
		a, b, c, d = d, c.Add(whole.Mul(d).Neg()), b, rest
	}
}

// fraction returns the continued fraction of some terms, the last of which is not 0.
func fraction(terms []wide.Num) wide.Num {
	num, den := wide.Int(1), wide.Num{}
	for _, t := range slices.Backward(terms) {
		num, den = t.Mul(num).Add(den), num
	}
	return num.Quo(den)
}
