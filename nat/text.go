package nat

import (
	"slices"
	"strconv"

	"isochrone/api"
)

const (
	// maxDigits is the length of the longest text that Parse reads; such a number needs fewer than MaxWords words.
	maxDigits = 20000
	// Decimal digits are converted in blocks whose numbers fit a word.
	blockDigits = 9
	blockBase   = 1000000000
)

// Text returns the decimal digits of a.
func Text(a []uint32) (string, api.Errno) {
	if !Valid(a) {
		return "", api.ErrForm
	}
	blocks := split(a)
	last := len(blocks) - 1
	text := strconv.AppendUint(nil, uint64(blocks[last]), 10)
	for i := last - 1; i >= 0; i-- {
		digits := strconv.AppendUint(nil, uint64(blocks[i]), 10)
		padded := []byte("000000000")
		copy(padded[blockDigits-len(digits):], digits)
		text = append(text, padded...)
	}
	return string(text), api.OK
}

// split returns the digits of a in base blockBase, the lowest first, at least one.
func split(a []uint32) []uint32 {
	rest := slices.Clone(a)
	var blocks []uint32
	for {
		block := divideWord(rest, blockBase)
		blocks = append(blocks, block)
		rest = trim(rest)
		if len(rest) == 0 {
			return blocks
		}
	}
}

// Parse reads one to maxDigits decimal digits.
func Parse(s string) ([]uint32, api.Errno) {
	if len(s) > maxDigits {
		return nil, api.ErrLimit
	}
	if s == "" {
		return nil, api.ErrSyntax
	}
	var number []uint32
	at := 0
blocks:
	for {
		block, base := uint32(0), uint32(1)
		for base < blockBase {
			if at == len(s) {
				number = timesAdd(number, base, block)
				break blocks
			}
			c := s[at]
			if c < '0' || c > '9' {
				return nil, api.ErrSyntax
			}
			block, base = block*10+uint32(c-'0'), base*10
			at++
		}
		number = timesAdd(number, base, block)
	}
	return number, api.OK
}

// timesAdd returns a * factor + summand, in the memory of a if it suffices. A zero stays without words.
func timesAdd(a []uint32, factor, summand uint32) []uint32 {
	carry := uint64(summand)
	for i, w := range a {
		t := uint64(w)*uint64(factor) + carry
		a[i] = uint32(t)
		carry = t >> wordBits
	}
	if carry == 0 {
		return a
	}
	return append(a, uint32(carry))
}
