package modular

import "slices"

// A polynomial is the slice of its coefficients from the constant upwards, the last one not zero.

// Trimmed leaves out the leading zeros of a polynomial that may have some.
func Trimmed(a []uint64) []uint64 {
	n := len(a)
	for n > 0 && a[n-1] == 0 {
		n--
	}
	return a[:n]
}

// Remainder returns the remainder of a by a polynomial b that is not zero.
func (p Prime) Remainder(a, b []uint64) []uint64 {
	rest := slices.Clone(a)
	last := len(b) - 1
	inverse := p.Inverse(b[last])
	for len(rest) > last {
		places := len(rest) - len(b)
		factor := p.Neg(p.Times(rest[len(rest)-1], inverse))
		for k, c := range b {
			rest[places+k] = p.Plus(rest[places+k], p.Times(factor, c))
		}
		rest = Trimmed(rest)
	}
	return rest
}

// GCD returns the greatest common divisor of two polynomials, of which one is not zero, with the last coefficient 1.
func (p Prime) GCD(a, b []uint64) []uint64 {
	for len(b) > 0 {
		a, b = b, p.Remainder(a, b)
	}
	monic := make([]uint64, len(a))
	inverse := p.Inverse(a[len(a)-1])
	for i, c := range a {
		monic[i] = p.Times(c, inverse)
	}
	return monic
}
