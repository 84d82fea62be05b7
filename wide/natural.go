package wide

import (
	"cmp"
	"math/bits"
)

// A natural number is a slice of its digits in base 2^64, the lowest first and the last one not zero. No function of this package changes such a slice once it is made, so that results may share memory with arguments.

const wordBits = 64

// trim leaves out the leading zero words.
func trim(a []uint64) []uint64 {
	n := len(a)
	for n > 0 && a[n-1] == 0 {
		n--
	}
	return a[:n]
}

func isOne(a []uint64) bool {
	return len(a) == 1 && a[0] == 1
}

func bitLen(a []uint64) int {
	n := len(a)
	if n == 0 {
		return 0
	}
	return wordBits*(n-1) + bits.Len64(a[n-1])
}

func compare(a, b []uint64) int {
	if len(a) != len(b) {
		return cmp.Compare(len(a), len(b))
	}
	for i := len(a) - 1; i >= 0; i-- {
		if a[i] != b[i] {
			return cmp.Compare(a[i], b[i])
		}
	}
	return 0
}

func plus(a, b []uint64) []uint64 {
	if len(a) < len(b) {
		a, b = b, a
	}
	sum := make([]uint64, len(a)+1)
	carry := uint64(0)
	for i, w := range b {
		sum[i], carry = bits.Add64(a[i], w, carry)
	}
	for i := len(b); i < len(a); i++ {
		sum[i], carry = bits.Add64(a[i], 0, carry)
	}
	sum[len(a)] = carry
	return trim(sum)
}

// minus needs a >= b.
func minus(a, b []uint64) []uint64 {
	difference := make([]uint64, len(a))
	borrow := uint64(0)
	for i, w := range b {
		difference[i], borrow = bits.Sub64(a[i], w, borrow)
	}
	for i := len(b); i < len(a); i++ {
		difference[i], borrow = bits.Sub64(a[i], 0, borrow)
	}
	return trim(difference)
}

func times(a, b []uint64) []uint64 {
	switch {
	case isOne(a):
		return b
	case isOne(b):
		return a
	case len(a) > len(b):
		a, b = b, a
	}
	// Powers of 2 have many zeros at the end.
	lowA, lowB := zeroWords(a), zeroWords(b)
	a, b = a[lowA:], b[lowB:]
	product := make([]uint64, lowA+lowB+len(a)+len(b))
	sum := product[lowA+lowB:]
	switch {
	case len(a) < longWords:
		for i, w := range a {
			sum[i+len(b)] = addTimes(sum[i:i+len(b)], b, w)
		}
	case 2*len(a) > len(b)+1:
		addHalves(sum, a, b)
	default:
		for from := 0; from < len(b); from += len(a) {
			part := trim(b[from:min(from+len(a), len(b))])
			addTo(sum[from:], times(a, part))
		}
	}
	return trim(product)
}

// longWords is the number of words from which on products are made of those of halves.
const longWords = 80

// addHalves adds a * b to the words of sum, which are zero and as many as those of a and b together. By Karatsuba, three products of halves are enough. It needs len(a) <= len(b), and in a more words than in a half of b.
func addHalves(sum, a, b []uint64) {
	half := (len(b) + 1) / 2
	lowA, highA := trim(a[:half]), a[half:]
	lowB, highB := trim(b[:half]), b[half:]
	low, high := times(lowA, lowB), times(highA, highB)
	all := times(plus(lowA, highA), plus(lowB, highB))
	copy(sum, low)
	copy(sum[2*half:], high)
	addTo(sum[half:], minus(minus(all, low), high))
}

// addTo adds a to the words of sum, which have room for the result.
func addTo(sum, a []uint64) {
	carry := uint64(0)
	for i, w := range a {
		sum[i], carry = bits.Add64(sum[i], w, carry)
	}
	for i := len(a); carry > 0; i++ {
		sum[i], carry = bits.Add64(sum[i], 0, carry)
	}
}

// zeroWords returns the number of zero words at the end of a.
func zeroWords(a []uint64) int {
	n := 0
	for n < len(a) && a[n] == 0 {
		n++
	}
	return n
}

// addTimes adds b * w to the words of sum, which are as many as those of b, and returns the carry.
func addTimes(sum, b []uint64, w uint64) uint64 {
	carry := uint64(0)
	for i, v := range b {
		high, low := timesPlus(v, w, carry)
		next := uint64(0)
		sum[i], next = bits.Add64(sum[i], low, 0)
		carry = high + next
	}
	return carry
}

// timesPlus returns a*b + c, which is at most (2^64-1)*2^64.
func timesPlus(a, b, c uint64) (high, low uint64) {
	high, low = bits.Mul64(a, b)
	low, carry := bits.Add64(low, c, 0)
	return high + carry, low
}

// shiftUp returns the words of a * 2^places, one more than those of a. It needs places < wordBits.
func shiftUp(a []uint64, places int) []uint64 {
	shifted := make([]uint64, len(a)+1)
	carry := uint64(0)
	for i, w := range a {
		shifted[i] = w<<places | carry
		// A shift by 64 places gives 0.
		carry = w >> (wordBits - places)
	}
	shifted[len(a)] = carry
	return shifted
}

// shiftDown returns the integer part of a / 2^places. It needs places < wordBits.
func shiftDown(a []uint64, places int) []uint64 {
	shifted := make([]uint64, len(a))
	carry := uint64(0)
	for i := len(a) - 1; i >= 0; i-- {
		shifted[i] = a[i]>>places | carry
		carry = a[i] << (wordBits - places)
	}
	return trim(shifted)
}
