package nat

import (
	"math/bits"
	"slices"

	"isochrone/api"
)

// maxShift is the greatest number of places that Shift moves a number in either direction.
const maxShift = 200000

// Add returns a + b.
func Add(a, b []uint32) ([]uint32, api.Errno) {
	if !Valid(a) || !Valid(b) {
		return nil, api.ErrForm
	}
	return fit(add(a, b))
}

// Sub returns a - b, or ErrRange if a is less than b.
func Sub(a, b []uint32) ([]uint32, api.Errno) {
	if !Valid(a) || !Valid(b) {
		return nil, api.ErrForm
	}
	if compare(a, b) < 0 {
		return nil, api.ErrRange
	}
	return sub(a, b), api.OK
}

// Mul returns a * b.
func Mul(a, b []uint32) ([]uint32, api.Errno) {
	if !Valid(a) || !Valid(b) {
		return nil, api.ErrForm
	}
	return fit(mul(a, b))
}

// Pow returns a to the power n, or ErrRange if n is negative.
func Pow(a []uint32, n int) ([]uint32, api.Errno) {
	if !Valid(a) {
		return nil, api.ErrForm
	}
	if n < 0 {
		return nil, api.ErrRange
	}
	if n == 0 {
		return From(1), api.OK
	}
	size := bitLen(a)
	if size <= 1 {
		return slices.Clone(a), api.OK
	}
	// The power is at least 2^((size-1)*n). This keeps what is multiplied below within twice the limit.
	if n > (maxBits-1)/(size-1) {
		return nil, api.ErrLimit
	}
	return fit(pow(a, n))
}

// Shift returns the integer part of a times 2^n, or ErrRange if n is not from -maxShift to maxShift.
func Shift(a []uint32, n int) ([]uint32, api.Errno) {
	if !Valid(a) {
		return nil, api.ErrForm
	}
	if n < -maxShift || n > maxShift {
		return nil, api.ErrRange
	}
	if n < 0 {
		return shiftDown(a, -n), api.OK
	}
	return fit(shiftUp(a, n))
}

func add(a, b []uint32) []uint32 {
	if len(a) < len(b) {
		a, b = b, a
	}
	sum := make([]uint32, len(a)+1)
	carry := uint32(0)
	for i, w := range b {
		sum[i], carry = bits.Add32(a[i], w, carry)
	}
	for i := len(b); i < len(a); i++ {
		sum[i], carry = bits.Add32(a[i], 0, carry)
	}
	sum[len(a)] = carry
	return trim(sum)
}

// sub needs a >= b.
func sub(a, b []uint32) []uint32 {
	difference := make([]uint32, len(a))
	borrow := uint32(0)
	for i, w := range b {
		difference[i], borrow = bits.Sub32(a[i], w, borrow)
	}
	for i := len(b); i < len(a); i++ {
		difference[i], borrow = bits.Sub32(a[i], 0, borrow)
	}
	return trim(difference)
}

func mul(a, b []uint32) []uint32 {
	product := make([]uint32, len(a)+len(b))
	for i, w := range a {
		product[i+len(b)] = addTimes(product[i:i+len(b)], b, w)
	}
	return trim(product)
}

// addTimes adds b * w to the words of sum, which are as many as those of b, and returns the carry.
func addTimes(sum, b []uint32, w uint32) uint32 {
	carry := uint64(0)
	for i, v := range b {
		// At most (2^32-1)^2 + 2*(2^32-1) = 2^64-1.
		t := uint64(v)*uint64(w) + uint64(sum[i]) + carry
		sum[i] = uint32(t)
		carry = t >> wordBits
	}
	return uint32(carry)
}

// pow squares from the highest digit of n downwards, so that no number on the way is greater than the result.
func pow(a []uint32, n int) []uint32 {
	power := From(1)
	for i := bits.Len(uint(n)) - 1; i >= 0; i-- {
		power = mul(power, power)
		if n>>i&1 == 1 {
			power = mul(power, a)
		}
	}
	return power
}

func shiftUp(a []uint32, n int) []uint32 {
	if len(a) == 0 {
		return nil
	}
	words, places := n/wordBits, uint(n%wordBits)
	shifted := make([]uint32, len(a)+words+1)
	carry := uint32(0)
	for i, w := range a {
		shifted[i+words] = w<<places | carry
		// A shift by 32 places gives 0.
		carry = w >> (wordBits - places)
	}
	shifted[len(a)+words] = carry
	return trim(shifted)
}

func shiftDown(a []uint32, n int) []uint32 {
	words, places := n/wordBits, uint(n%wordBits)
	if words >= len(a) {
		return nil
	}
	shifted := slices.Clone(a[words:])
	for i := range shifted {
		shifted[i] >>= places
		if above := words + i + 1; above < len(a) {
			shifted[i] |= a[above] << (wordBits - places)
		}
	}
	return trim(shifted)
}
