// Package wide has rational numbers of any length. Numbers on the way to a result have no limit (rule R5 of shared/DOC.md), but the functions of nat and rat refuse a result of more than MaxWords words; the layers above compute with the numbers of this package where a sum or a product may be too long for a while. Words have 64 bits here, which makes long products four times as fast.
package wide

import (
	"cmp"

	"isochrone/api"
)

// Num is a rational number. The zero value is 0. A Num does not change.
type Num struct {
	neg bool
	// num and den have no factor in common, and den is not zero; but both of 0 are empty.
	num, den []uint64
}

// Int returns the integer n.
func Int(n int) Num {
	if n == 0 {
		return Num{}
	}
	size := uint64(n)
	if n < 0 {
		size = -size
	}
	return Num{neg: n < 0, num: []uint64{size}, den: []uint64{1}}
}

// Of returns the number of a valid Rat.
func Of(a api.Rat) Num {
	if len(a.Num) == 0 {
		return Num{}
	}
	return Num{neg: a.Neg, num: fromShort(a.Num), den: fromShort(a.Den)}
}

// Rat returns a as a Rat. It needs a number that fits in MaxWords words, otherwise the Rat is not valid.
func (a Num) Rat() api.Rat {
	if a.IsZero() {
		return api.Rat{Den: []uint32{1}}
	}
	return api.Rat{Neg: a.neg, Num: toShort(a.num), Den: toShort(a.den)}
}

// Fits reports whether the numerator and the denominator of a have at most so many words of 32 bits.
func (a Num) Fits(words int) bool {
	return shortLen(a.num) <= words && shortLen(a.den) <= words
}

// IsZero reports whether a is 0.
func (a Num) IsZero() bool {
	return len(a.num) == 0
}

// Numerator returns the numerator of a, with the sign of a.
func (a Num) Numerator() Num {
	if a.IsZero() {
		return a
	}
	return Num{neg: a.neg, num: a.num, den: []uint64{1}}
}

// Denominator returns the denominator of a, which is positive.
func (a Num) Denominator() Num {
	if a.IsZero() {
		return Int(1)
	}
	return Num{num: a.den, den: []uint64{1}}
}

// Sign returns -1, 0 or 1 as a is negative, zero or positive.
func (a Num) Sign() int {
	switch {
	case a.IsZero():
		return 0
	case a.neg:
		return -1
	}
	return 1
}

// Cmp returns -1, 0 or 1 as a is less than, equal to or greater than b.
func (a Num) Cmp(b Num) int {
	if a.Sign() != b.Sign() {
		return cmp.Compare(a.Sign(), b.Sign())
	}
	sizes := compare(times(a.num, b.den), times(b.num, a.den))
	if a.neg {
		return -sizes
	}
	return sizes
}

// Abs returns the absolute value of a.
func (a Num) Abs() Num {
	return Num{num: a.num, den: a.den}
}

// Neg returns -a.
func (a Num) Neg() Num {
	return Num{neg: !a.neg && !a.IsZero(), num: a.num, den: a.den}
}

// Add returns a + b.
func (a Num) Add(b Num) Num {
	switch {
	case a.IsZero():
		return b
	case b.IsZero():
		return a
	}
	g := gcd(a.den, b.den)
	ownA, ownB := quotient(a.den, g), quotient(b.den, g)
	neg, num := signedSum(a.neg, times(a.num, ownB), b.neg, times(b.num, ownA))
	if len(num) == 0 {
		return Num{}
	}
	// A prime factor of ownA divides one of the two products and not the other one, likewise one of ownB; so num has factors in common with g alone.
	h := gcd(num, g)
	return Num{neg, quotient(num, h), times(ownA, quotient(b.den, h))}
}

// Mul returns a * b.
func (a Num) Mul(b Num) Num {
	if a.IsZero() || b.IsZero() {
		return Num{}
	}
	// What is left without these factors has no factor in common.
	g, h := gcd(a.num, b.den), gcd(b.num, a.den)
	num := times(quotient(a.num, g), quotient(b.num, h))
	den := times(quotient(a.den, h), quotient(b.den, g))
	return Num{a.neg != b.neg, num, den}
}

// Quo returns a / b for a number b that is not 0.
func (a Num) Quo(b Num) Num {
	return a.Mul(Num{neg: b.neg, num: b.den, den: b.num})
}

// Residues returns what the numerator and the denominator of a leave modulo a number m > 1, as numbers from 0 to m-1.
func (a Num) Residues(m uint64) (num, den uint64) {
	if a.IsZero() {
		return 0, 1
	}
	num = remainderWord(a.num, m)
	if a.neg && num > 0 {
		num = m - num
	}
	return num, remainderWord(a.den, m)
}

// signedSum returns the sum of two natural numbers that are taken with signs.
func signedSum(negA bool, a []uint64, negB bool, b []uint64) (neg bool, size []uint64) {
	switch {
	case negA == negB:
		return negA, plus(a, b)
	case compare(a, b) >= 0:
		return negA, minus(a, b)
	}
	return negB, minus(b, a)
}

// fromShort takes words of 32 bits.
func fromShort(a []uint32) []uint64 {
	words := make([]uint64, (len(a)+1)/2)
	for i, w := range a {
		words[i/2] |= uint64(w) << (i % 2 * 32)
	}
	return words
}

// toShort returns words of 32 bits.
func toShort(a []uint64) []uint32 {
	words := make([]uint32, shortLen(a))
	for i := range words {
		words[i] = uint32(a[i/2] >> (i % 2 * 32))
	}
	return words
}

// shortLen returns the number of words of 32 bits.
func shortLen(a []uint64) int {
	return (bitLen(a) + 31) / 32
}
