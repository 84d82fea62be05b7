package root

import "isochrone/wide"

// Signs and roots are found for polynomials with integer coefficients that have no factor in common, since sums of integers need no common denominator. The functions of this file take and return such polynomials.

// whole returns such a polynomial and a positive number whose product is p. It needs a polynomial that is not zero.
func (p list) whole() (q list, factor wide.Num) {
	return wide.Whole(p)
}

// primitive returns a polynomial with integer coefficients, not zero, without the positive factor that they have in common, and that factor.
func (p list) primitive() (q list, content wide.Num) {
	return wide.Primitive(p)
}

// at returns the value of p at num/den, with den > 0, times den to the power of the degree of p.
func (p list) at(num, den wide.Num) wide.Num {
	value, power := p.last(), den
	for i := p.degree() - 1; i >= 0; i-- {
		value = value.Mul(num).Add(p[i].Mul(power))
		power = power.Mul(den)
	}
	return value
}

// signAt returns the sign of p at num/den, with den > 0.
func (p list) signAt(num, den wide.Num) int {
	return p.at(num, den).Sign()
}

// exactly returns p / q, or false if q does not divide p. It needs a q of no higher degree and with a positive last coefficient. By Gauss's lemma, the coefficients of a quotient are integers.
func (p list) exactly(q list) (quotient list, ok bool) {
	rest := append(list{}, p...)
	quotient = make(list, len(p)-q.degree())
	for k := len(quotient) - 1; k >= 0; k-- {
		factor, left := rest[k+q.degree()].DivMod(q.last())
		if !left.IsZero() {
			return nil, false
		}
		quotient[k] = factor
		rest.subtract(k, factor, q)
	}
	return quotient, len(rest.trimmed()) == 0
}
