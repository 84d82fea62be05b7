package rat

import (
	"cmp"
	"slices"

	"isochrone/api"
	"isochrone/nat"
)

// Numbers on the way to a result have no limit, but those of package nat have. The functions of this file take natural numbers of any length, in the form of a magnitude, and leave to nat what is short enough for it.

const (
	wordBits = 32
	// halfWords is the number of leading words of a divisor from which a part of a quotient is found.
	halfWords = api.MaxWords / 2
)

// trim leaves out the leading zero words.
func trim(a []uint32) []uint32 {
	n := len(a)
	for n > 0 && a[n-1] == 0 {
		n--
	}
	return a[:n]
}

// move returns a with its words n places higher, or -n places lower.
func move(a []uint32, n int) []uint32 {
	if n < 0 {
		return slices.Clone(a[min(-n, len(a)):])
	}
	return trim(append(make([]uint32, n), a...))
}

func compare(a, b []uint32) int {
	if len(a) != len(b) {
		return cmp.Compare(len(a), len(b))
	}
	for i, word := range slices.Backward(a) {
		if word != b[i] {
			return cmp.Compare(word, b[i])
		}
	}
	return 0
}

func plus(a, b []uint32) []uint32 {
	return combine(a, b, 1)
}

// minus needs a >= b.
func minus(a, b []uint32) []uint32 {
	return combine(a, b, -1)
}

// combine returns a + factor*b for a factor of 1 or -1. It needs a result that is not negative.
func combine(a, b []uint32, factor int64) []uint32 {
	words := make([]uint32, max(len(a), len(b))+1)
	carry := int64(0)
	for i := range words {
		if i < len(a) {
			carry += int64(a[i])
		}
		if i < len(b) {
			carry += factor * int64(b[i])
		}
		words[i] = uint32(carry)
		carry >>= wordBits
	}
	return trim(words)
}

// times splits the longer number until nat can multiply.
func times(a, b []uint32) []uint32 {
	if len(a)+len(b) <= api.MaxWords {
		product, _ := nat.Mul(a, b)
		return product
	}
	if len(a) < len(b) {
		a, b = b, a
	}
	middle := len(a) / 2
	low, high := trim(a[:middle]), a[middle:]
	return plus(times(low, b), move(times(high, b), middle))
}

// gcd needs two magnitudes.
func gcd(a, b []uint32) []uint32 {
	divisor, _ := nat.GCD(a, b)
	return divisor
}

func quotient(a, b []uint32) []uint32 {
	q, _ := divide(a, b)
	return q
}

func remainder(a, b []uint32) []uint32 {
	_, r := divide(a, b)
	return r
}

// divide needs a magnitude b > 0. It takes parts of the quotient away until nat can divide what is left.
func divide(a, b []uint32) (q, r []uint32) {
	for len(a) > api.MaxWords {
		part := leadingPart(a, b)
		q = plus(q, part)
		a = minus(a, times(part, b))
	}
	last, r, _ := nat.DivMod(a, b)
	return plus(q, last), r
}

// leadingPart returns a number from 1 to a/b that agrees with the quotient in almost halfWords leading words. It needs more than MaxWords words in a, and a magnitude b > 0.
func leadingPart(a, b []uint32) []uint32 {
	fromA, fromB := len(a)-api.MaxWords, max(len(b)-halfWords, 0)
	divisor := b[fromB:]
	if fromB > 0 {
		// The words left out make b greater than its leading words say, but not by a whole unit.
		divisor = plus(divisor, nat.From(1))
	}
	part, _, _ := nat.DivMod(a[fromA:], divisor)
	// The part has at least halfWords words, and is moved down by fewer: it does not become zero.
	return move(part, fromA-fromB)
}
