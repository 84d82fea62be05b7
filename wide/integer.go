package wide

import "math/bits"

// The functions of this file need integers.

// integer makes an integer of its sign and its size.
func integer(neg bool, size []uint64) Num {
	if len(size) == 0 {
		return Num{}
	}
	return Num{neg, size, []uint64{1}}
}

// DivMod returns the quotient and the remainder of a by b > 0: a = q*b + r with 0 <= r < b.
func (a Num) DivMod(b Num) (q, r Num) {
	whole, rest := divide(a.num, b.num)
	if a.neg && len(rest) > 0 {
		whole, rest = plus(whole, []uint64{1}), minus(b.num, rest)
	}
	return integer(a.neg, whole), integer(false, rest)
}

// GCD returns the greatest common divisor of a and b: the size of the other one if one is zero, and zero if both are.
func GCD(a, b Num) Num {
	switch {
	case a.IsZero():
		return b.Abs()
	case b.IsZero():
		return a.Abs()
	}
	return integer(false, gcd(a.num, b.num))
}

// Shift returns a * 2^n, without its fraction if n is negative.
func (a Num) Shift(n int) Num {
	switch {
	case a.IsZero() || n == 0:
		return a
	case n < 0:
		words := min(-n/wordBits, len(a.num))
		return integer(a.neg, shiftDown(a.num[words:], -n%wordBits))
	}
	words := append(make([]uint64, n/wordBits), shiftUp(a.num, n%wordBits)...)
	return Num{a.neg, trim(words), a.den}
}

// Zeros returns the number of zeros at the end of the binary digits of a; for zero itself it is 0.
func (a Num) Zeros() int {
	if a.IsZero() {
		return 0
	}
	n := zeroWords(a.num)
	return wordBits*n + bits.TrailingZeros64(a.num[n])
}

// Bits returns the number of binary digits of the size of a, 0 for zero.
func (a Num) Bits() int {
	return bitLen(a.num)
}

// Words returns the number of words of 64 bits of a.
func (a Num) Words() int {
	return len(a.num)
}
