// Package nat has arithmetic on natural numbers of any length: see shared/doc/01-nat.md.
//
// The exported functions check their arguments and the length of their results. The functions behind them take valid magnitudes and have no limit.
package nat

import (
	"cmp"
	"math/bits"

	"isochrone/api"
)

const (
	wordBits = 32
	maxBits  = wordBits * api.MaxWords
)

// Valid reports whether a is a valid magnitude.
func Valid(a []uint32) bool {
	n := len(a)
	return n == 0 || n <= api.MaxWords && a[n-1] != 0
}

// From returns the magnitude of n.
func From(n uint64) []uint32 {
	return trim([]uint32{uint32(n), uint32(n >> wordBits)})
}

// Cmp returns -1, 0 or 1 as a is less than, equal to or greater than b.
func Cmp(a, b []uint32) (int, api.Errno) {
	if !Valid(a) || !Valid(b) {
		return 0, api.ErrForm
	}
	return compare(a, b), api.OK
}

// Bits returns the number of binary digits of a.
func Bits(a []uint32) (int, api.Errno) {
	if !Valid(a) {
		return 0, api.ErrForm
	}
	return bitLen(a), api.OK
}

// trim leaves out the leading zero words.
func trim(a []uint32) []uint32 {
	n := len(a)
	for n > 0 && a[n-1] == 0 {
		n--
	}
	return a[:n]
}

// fit returns a result if it has at most MaxWords words.
func fit(a []uint32) ([]uint32, api.Errno) {
	if len(a) > api.MaxWords {
		return nil, api.ErrLimit
	}
	return a, api.OK
}

// low returns the number whose words are the lowest two of a.
func low(a []uint32) uint64 {
	n := uint64(0)
	if len(a) > 0 {
		n = uint64(a[0])
	}
	if len(a) > 1 {
		n |= uint64(a[1]) << wordBits
	}
	return n
}

func compare(a, b []uint32) int {
	if len(a) != len(b) {
		return cmp.Compare(len(a), len(b))
	}
	for i := len(a) - 1; i >= 0; i-- {
		if a[i] != b[i] {
			return cmp.Compare(a[i], b[i])
		}
	}
	return 0
}

func bitLen(a []uint32) int {
	n := len(a)
	if n == 0 {
		return 0
	}
	return wordBits*(n-1) + bits.Len32(a[n-1])
}
