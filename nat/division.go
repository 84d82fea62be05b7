package nat

import (
	"math/bits"
	"slices"

	"isochrone/api"
)

// DivMod returns the quotient and the remainder of a by b, or ErrZero if b is zero.
func DivMod(a, b []uint32) (q, r []uint32, e api.Errno) {
	if !Valid(a) || !Valid(b) {
		return nil, nil, api.ErrForm
	}
	if len(b) == 0 {
		return nil, nil, api.ErrZero
	}
	q, r = divide(a, b)
	return q, r, api.OK
}

// divide needs b > 0.
func divide(a, b []uint32) (q, r []uint32) {
	if compare(a, b) < 0 {
		return nil, slices.Clone(a)
	}
	if len(b) == 1 {
		q = slices.Clone(a)
		rest := divideWord(q, b[0])
		return trim(q), trim([]uint32{rest})
	}
	return divideLong(a, b)
}

// divideWord replaces a by its quotient by w and returns the remainder.
func divideWord(a []uint32, w uint32) uint32 {
	rest := uint64(0)
	for i := len(a) - 1; i >= 0; i-- {
		t := rest<<wordBits | uint64(a[i])
		a[i] = uint32(t / uint64(w))
		rest = t % uint64(w)
	}
	return uint32(rest)
}

// divideLong is long division word by word. It needs a >= b and at least two words in b.
func divideLong(a, b []uint32) (q, r []uint32) {
	n := len(b)
	// With the highest bit of the divisor set, a guessed word is at most one too great.
	places := bits.LeadingZeros32(b[n-1])
	divisor := shiftUp(b, places)
	rest := make([]uint32, len(a)+1)
	copy(rest, shiftUp(a, places))
	q = make([]uint32, len(a)-n+1)
	for i := len(q) - 1; i >= 0; i-- {
		part := rest[i : i+n+1]
		word := guess(part, divisor)
		if takeTimes(part, divisor, word) {
			word--
			addBack(part, divisor)
		}
		q[i] = word
	}
	return trim(q), shiftDown(trim(rest), places)
}

// guess returns the word by which part divided by divisor begins, or one more. It needs one word more in part than in divisor, at least two words and the highest bit in divisor, and part < divisor * 2^32.
func guess(part, divisor []uint32) uint32 {
	n := len(divisor)
	high, next := uint64(divisor[n-1]), uint64(divisor[n-2])
	top := uint64(part[n])<<wordBits | uint64(part[n-1])
	word, rest := top/high, top%high
	for word>>wordBits != 0 || word*next > rest<<wordBits|uint64(part[n-2]) {
		word--
		rest += high
		if rest>>wordBits != 0 {
			break
		}
	}
	return uint32(word)
}

// takeTimes subtracts b * w from the words of part, which are one more than those of b, and reports whether the difference is negative.
func takeTimes(part, b []uint32, w uint32) bool {
	carry, borrow := uint64(0), uint32(0)
	for i, v := range b {
		t := uint64(v)*uint64(w) + carry
		part[i], borrow = bits.Sub32(part[i], uint32(t), borrow)
		carry = t >> wordBits
	}
	part[len(b)], borrow = bits.Sub32(part[len(b)], uint32(carry), borrow)
	return borrow != 0
}

// addBack adds b to the words of part, which are one more than those of b, and drops the carry that makes up for the borrow of takeTimes.
func addBack(part, b []uint32) {
	carry := uint32(0)
	for i, v := range b {
		part[i], carry = bits.Add32(part[i], v, carry)
	}
	part[len(b)] += carry
}
