package wide

import "slices"

// Between returns the number strictly between lo < hi whose denominator is least, and among these the one of the least size.
func Between(lo, hi Num) Num {
	switch {
	case lo.Sign() < 0 && hi.Sign() > 0:
		return Num{}
	case lo.Sign() < 0:
		return Between(hi.Neg(), lo.Neg()).Neg()
	}
	// The numbers are a/b and c/d; d may become 0, which stands for no upper end.
	a, b, c, d := lo.Numerator(), lo.Denominator(), hi.Numerator(), hi.Denominator()
	var terms []Num
	for {
		whole, rest := a.DivMod(b)
		above := whole.Add(Int(1))
		if above.Mul(d).Cmp(c) < 0 {
			terms = append(terms, above)
			return fraction(terms)
		}
		terms = append(terms, whole)
		// What is left is between 0 and 1: go on with the inverses.
		a, b, c, d = d, c.Add(whole.Mul(d).Neg()), b, rest
	}
}

// fraction returns the continued fraction of some terms, the last of which is not 0.
func fraction(terms []Num) Num {
	num, den := Int(1), Num{}
	for _, t := range slices.Backward(terms) {
		num, den = t.Mul(num).Add(den), num
	}
	return num.Quo(den)
}
