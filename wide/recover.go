package wide

// Recover returns the number x/y with sizes of x and y below 2^bits that is equal to the integer a modulo m: a*y - x is a multiple of m, and y and m have no factor in common. It reports false if there is none. It needs 0 <= a < m and 2^(2*bits+1) <= m, so that there are no two.
func Recover(a, m Num, bits int) (Num, bool) {
	// Each remainder of Euclid's algorithm is a multiple of a modulo m. The number is found where the remainders become short, as its parts are short.
	high, low := multiple{rest: m.num}, multiple{rest: a.num, factor: []uint64{1}}
	neg := false
	for bitLen(low.rest) > bits {
		s := steps{}
		// A mix of two numbers is less than 2^33 times shorter than the second one.
		if bitLen(low.rest) > bits+33 && bitLen(high.rest) > windowBits {
			s = leadingSteps(high.rest, low.rest)
		}
		if s.first.y == 0 {
			high, low = low, high.after(low)
			neg = !neg
			continue
		}
		high, low = s.first.ofMultiples(high, low), s.second.ofMultiples(high, low)
		neg = neg != (s.second.y < 0)
	}
	if bitLen(low.factor) > bits {
		return Num{}, false
	}
	if len(low.rest) == 0 {
		return Num{}, isOne(low.factor)
	}
	if !isOne(gcd(low.rest, low.factor)) {
		return Num{}, false
	}
	return Num{neg, low.rest, low.factor}, true
}

// multiple is a remainder of Euclid's algorithm for m and a, and the size of the factor by which it is a multiple of a modulo m. The factors of one remainder and the next have opposite signs.
type multiple struct {
	rest, factor []uint64
}

// after returns the remainder that follows m and next.
func (m multiple) after(next multiple) multiple {
	q, r := divide(m.rest, next.rest)
	return multiple{r, plus(times(q, next.factor), m.factor)}
}

// ofMultiples returns the remainder that is a mix of two.
func (m mix) ofMultiples(a, b multiple) multiple {
	x, y := uint64(max(m.x, -m.x)), uint64(max(m.y, -m.y))
	return multiple{m.of(a.rest, b.rest), plus(timesWord(a.factor, x), timesWord(b.factor, y))}
}

// timesWord returns a * w.
func timesWord(a []uint64, w uint64) []uint64 {
	product := make([]uint64, len(a)+1)
	product[len(a)] = addTimes(product[:len(a)], a, w)
	return trim(product)
}
