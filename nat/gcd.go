package nat

import (
	"slices"

	"isochrone/api"
)

// GCD returns the greatest common divisor of a and b.
func GCD(a, b []uint32) ([]uint32, api.Errno) {
	if !Valid(a) || !Valid(b) {
		return nil, api.ErrForm
	}
	return gcd(a, b), api.OK
}

// gcd is Euclid's algorithm. While the numbers are long, it takes many steps at once by Lehmer's method.
func gcd(a, b []uint32) []uint32 {
	if compare(a, b) < 0 {
		a, b = b, a
	}
	for len(b) > 2 {
		s := many(a, b)
		if s.first.y == 0 {
			_, rest := divide(a, b)
			a, b = b, rest
			continue
		}
		a, b = s.first.of(a, b), s.second.of(a, b)
	}
	if len(b) == 0 {
		return slices.Clone(a)
	}
	_, rest := divide(a, b)
	return From(gcdShort(low(b), low(rest)))
}

func gcdShort(a, b uint64) uint64 {
	for b != 0 {
		a, b = b, a%b
	}
	return a
}

// mix stands for x*a + y*b of two numbers a and b.
type mix struct{ x, y int64 }

// steps are some first steps of Euclid's algorithm: they lead from a and b to first and second.
type steps struct{ first, second mix }

// windowBits is the number of leading binary digits from which many finds the steps. It keeps the factors of a mix below 2^31 in size.
const windowBits = 62

// many finds steps whose quotients are certain from the leading digits of a and b alone, perhaps none. It needs a >= b and more than windowBits digits in a.
func many(a, b []uint32) steps {
	places := bitLen(a) - windowBits
	high, next := window(a, places), window(b, places)
	s := steps{mix{1, 0}, mix{0, 1}}
	for next+s.second.x > 0 && next+s.second.y > 0 {
		// The digits left out put the true quotient between these two.
		q := (high + s.first.x) / (next + s.second.x)
		if q != (high+s.first.y)/(next+s.second.y) {
			break
		}
		// As they agree, the new factors are less than next in size; and next times a factor is at most the first value of high.
		s = steps{s.second, mix{s.first.x - q*s.second.x, s.first.y - q*s.second.y}}
		high, next = next, high-q*next
	}
	return s
}

// window returns the part of a from the given binary digit upwards, which needs to have at most windowBits digits.
func window(a []uint32, places int) int64 {
	return int64(low(shiftDown(a, places)))
}

// of returns x*a + y*b. It needs len(a) >= len(b), factors below 2^31 in size that are zero or of opposite signs, and a result from 0 to a.
func (m mix) of(a, b []uint32) []uint32 {
	sum := make([]uint32, len(a))
	carry := int64(0)
	for i, w := range a {
		carry += m.x * int64(w)
		if i < len(b) {
			carry += m.y * int64(b[i])
		}
		sum[i] = uint32(carry)
		carry >>= wordBits
	}
	return trim(sum)
}
