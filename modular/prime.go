// Package modular has arithmetic modulo a prime number, and polynomials in one variable over it. It is quick, since its numbers have one word; and what does not hold modulo a prime often cannot hold at all.
package modular

import "math/bits"

// Prime is an odd prime number below 2^62. The numbers modulo p that its methods take and return are from 0 to p-1.
type Prime uint64

// First is the prime to begin with.
const First Prime = 1<<61 - 1

// Next returns the greatest prime below p. It needs p > 100.
func (p Prime) Next() Prime {
	n := p - 2
	for !n.isPrime() {
		n -= 2
	}
	return n
}

// Plus returns a + b.
func (p Prime) Plus(a, b uint64) uint64 {
	sum := a + b
	if sum >= uint64(p) {
		sum -= uint64(p)
	}
	return sum
}

// Neg returns -a.
func (p Prime) Neg(a uint64) uint64 {
	if a == 0 {
		return 0
	}
	return uint64(p) - a
}

// Times returns a * b.
func (p Prime) Times(a, b uint64) uint64 {
	high, low := bits.Mul64(a, b)
	return bits.Rem64(high, low, uint64(p))
}

// Power returns a to the power k.
func (p Prime) Power(a, k uint64) uint64 {
	raised := uint64(1)
	for ; k > 0; k >>= 1 {
		if k&1 == 1 {
			raised = p.Times(raised, a)
		}
		a = p.Times(a, a)
	}
	return raised
}

// Inverse returns 1 / a for a number a that is not zero. By Fermat, a to the power p-1 is 1.
func (p Prime) Inverse(a uint64) uint64 {
	if a == 1 {
		return 1
	}
	return p.Power(a, uint64(p)-2)
}

// bases are enough to tell all primes below 2^64 from the composite numbers.
var bases = [...]uint64{2, 3, 5, 7, 11, 13, 17, 19, 23, 29, 31, 37}

// isPrime reports whether the odd number p > 37 is prime, by the test of Miller and Rabin.
func (p Prime) isPrime() bool {
	twos := bits.TrailingZeros64(uint64(p) - 1)
	odd := (uint64(p) - 1) >> twos
	for _, a := range bases {
		if !p.passes(a, odd, twos) {
			return false
		}
	}
	return true
}

// passes reports whether a to the power odd is 1, or becomes -1 after less than the given number of squarings: if p is prime, one of them holds, since p-1 is odd * 2^twos and the square roots of 1 are 1 and -1 alone.
func (p Prime) passes(a, odd uint64, twos int) bool {
	power := p.Power(a, odd)
	if power == 1 {
		return true
	}
	for range twos {
		if power == uint64(p)-1 {
			return true
		}
		power = p.Times(power, power)
	}
	return false
}
