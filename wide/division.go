package wide

import "math/bits"

func quotient(a, b []uint64) []uint64 {
	if isOne(b) {
		return a
	}
	q, _ := divide(a, b)
	return q
}

func remainder(a, b []uint64) []uint64 {
	_, r := divide(a, b)
	return r
}

// divide needs b > 0.
func divide(a, b []uint64) (q, r []uint64) {
	if compare(a, b) < 0 {
		return nil, a
	}
	if len(b) == 1 {
		return divideWord(a, b[0])
	}
	return divideLong(a, b)
}

func divideWord(a []uint64, w uint64) (q, r []uint64) {
	q = make([]uint64, len(a))
	rest := uint64(0)
	for i := len(a) - 1; i >= 0; i-- {
		q[i], rest = bits.Div64(rest, a[i], w)
	}
	return trim(q), trim([]uint64{rest})
}

// remainderWord returns the remainder of a by w > 0.
func remainderWord(a []uint64, w uint64) uint64 {
	rest := uint64(0)
	for i := len(a) - 1; i >= 0; i-- {
		rest = bits.Rem64(rest, a[i], w)
	}
	return rest
}

// divideLong is long division word by word. It needs a >= b and at least two words in b.
func divideLong(a, b []uint64) (q, r []uint64) {
	n := len(b)
	// With the highest bit of the divisor set, a guessed word is at most two too great.
	places := bits.LeadingZeros64(b[n-1])
	divisor := trim(shiftUp(b, places))
	rest := shiftUp(a, places)
	q = make([]uint64, len(a)-n+1)
	for i := len(q) - 1; i >= 0; i-- {
		part := rest[i : i+n+1]
		word := guess(part, divisor)
		negative := takeTimes(part, divisor, word)
		for negative {
			word--
			negative = !addBack(part, divisor)
		}
		q[i] = word
	}
	return trim(q), shiftDown(rest[:n], places)
}

// guess returns the word by which part divided by divisor begins, or at most two more. It needs one word more in part than in divisor, the highest bit in divisor, and part < divisor * 2^64.
func guess(part, divisor []uint64) uint64 {
	n := len(divisor)
	if part[n] == divisor[n-1] {
		return 1<<wordBits - 1
	}
	word, _ := bits.Div64(part[n], part[n-1], divisor[n-1])
	return word
}

// takeTimes subtracts b * w from the words of part, which are one more than those of b, and reports whether the difference is negative.
func takeTimes(part, b []uint64, w uint64) bool {
	carry, borrow := uint64(0), uint64(0)
	for i, v := range b {
		high, low := timesPlus(v, w, carry)
		part[i], borrow = bits.Sub64(part[i], low, borrow)
		carry = high
	}
	part[len(b)], borrow = bits.Sub64(part[len(b)], carry, borrow)
	return borrow != 0
}

// addBack adds b to the words of part, which are one more than those of b, and reports whether that makes up for the borrow of takeTimes.
func addBack(part, b []uint64) bool {
	carry := uint64(0)
	for i, v := range b {
		part[i], carry = bits.Add64(part[i], v, carry)
	}
	part[len(b)], carry = bits.Add64(part[len(b)], 0, carry)
	return carry != 0
}
