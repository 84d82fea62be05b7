package poly

import (
	"isochrone/api"
	"isochrone/modular"
)

// A division that leaves a remainder in the end may make millions of terms before that, or very long numbers. A shadow shows soon that it does: this is what is left of a polynomial modulo a prime number when all variables but one have fixed values. If q divides p, then the shadow of q divides that of p.

// prime is the modulus of shadows.
const prime = modular.First

// fixed has the values of variables in shadows. They are arbitrary, so that a polynomial that is not made for them is hardly ever zero there.
var fixed = [api.MaxVars]uint64{
	0x0c5d1a7e93b4f261, 0x19e27f60b8d3a54c, 0x07ab94c3de10f825, 0x13f86e2d59a7c0b4,
	0x0e4c39b7f2806d1a, 0x1a90d5f438e6b27c, 0x05b7e81c4fd29a36, 0x16d34a9f07c8e5b2,
}

// mayDivide reports whether each shadow of q divides that of p. It needs a q that is not zero.
func mayDivide(q, p []term, n int) bool {
	if len(q) == 1 {
		return true
	}
	above, okAbove := residues(p)
	below, okBelow := residues(q)
	// Without a multiple of the prime in the denominators, and with one coefficient of q that is none, the denominators of the quotient are no multiples of it either, by Gauss's lemma.
	if !okAbove || !okBelow || isNothing(below) {
		return true
	}
	for i := range n {
		if !shadowDivides(shadow(q, below, i), shadow(p, above, i)) {
			return false
		}
	}
	return true
}

// residues returns the coefficients modulo the prime, or false if it divides a denominator.
func residues(p []term) (list []uint64, ok bool) {
	list = make([]uint64, len(p))
	for i, t := range p {
		num, den := t.coef.Residues(uint64(prime))
		if den == 0 {
			return nil, false
		}
		list[i] = prime.Times(num, prime.Inverse(den))
	}
	return list, true
}

func isNothing(list []uint64) bool {
	for _, c := range list {
		if c != 0 {
			return false
		}
	}
	return true
}

// shadow returns the shadow in variable i of a polynomial whose coefficients have the given residues: its coefficients from the constant upwards.
func shadow(p []term, given []uint64, i int) []uint64 {
	coefs := make([]uint64, degreeIn(p, i)+1)
	for at, t := range p {
		c := given[at]
		for k, value := range fixed {
			if k != i {
				c = prime.Times(c, prime.Power(value, uint64(t.exps.exponent(k))))
			}
		}
		own := t.exps.exponent(i)
		coefs[own] = prime.Plus(coefs[own], c)
	}
	return modular.Trimmed(coefs)
}

// shadowDivides reports whether q divides p. The zero polynomial divides itself alone.
func shadowDivides(q, p []uint64) bool {
	if len(q) == 0 {
		return len(p) == 0
	}
	return len(prime.Remainder(p, q)) == 0
}
