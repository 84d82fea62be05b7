package wide

// gcd needs numbers that are not zero. It is Euclid's algorithm; while the numbers are long, it takes many steps at once by Lehmer's method.
func gcd(a, b []uint64) []uint64 {
	switch {
	case isOne(a):
		return a
	case isOne(b):
		return b
	}
	if compare(a, b) < 0 {
		a, b = b, a
	}
	for len(b) > 1 {
		s := leadingSteps(a, b)
		if s.first.y == 0 {
			a, b = b, remainder(a, b)
			continue
		}
		a, b = s.first.of(a, b), s.second.of(a, b)
	}
	if len(b) == 0 {
		return a
	}
	return []uint64{gcdWord(b[0], remainderWord(a, b[0]))}
}

func gcdWord(a, b uint64) uint64 {
	for b != 0 {
		a, b = b, a%b
	}
	return a
}

// mix stands for x*a + y*b of two numbers a and b.
type mix struct{ x, y int64 }

// steps are some first steps of Euclid's algorithm: they lead from a and b to first and second.
type steps struct{ first, second mix }

// windowBits is the number of leading binary digits from which leadingSteps finds the steps. It keeps the factors of a mix below 2^31 in size.
const windowBits = 62

// leadingSteps finds steps whose quotients are certain from the leading digits of a and b alone, perhaps none. It needs a >= b and more than windowBits digits in a.
func leadingSteps(a, b []uint64) steps {
	places := bitLen(a) - windowBits
	high, next := window(a, places), window(b, places)
	s := steps{mix{1, 0}, mix{0, 1}}
	for next+s.second.x > 0 && next+s.second.y > 0 {
		// The digits left out put the true quotient between these two.
		q := (high + s.first.x) / (next + s.second.x)
		if q != (high+s.first.y)/(next+s.second.y) {
			break
		}
		// As they agree, the new factors are less than next in size; and next times a factor is at most the first value of high.
		s = steps{s.second, mix{s.first.x - q*s.second.x, s.first.y - q*s.second.y}}
		high, next = next, high-q*next
	}
	return s
}

// window returns the part of a from the given binary digit upwards, which needs to have at most windowBits digits.
func window(a []uint64, places int) int64 {
	word, offset := places/wordBits, places%wordBits
	if word >= len(a) {
		return 0
	}
	part := a[word] >> offset
	if word+1 < len(a) {
		part |= a[word+1] << (wordBits - offset)
	}
	return int64(part)
}

// of returns x*a + y*b. It needs factors that are zero or of opposite signs, and a result from 0 to the greater one of a and b.
func (m mix) of(a, b []uint64) []uint64 {
	if m.x < 0 || m.y > 0 {
		return difference(b, uint64(m.y), a, uint64(-m.x))
	}
	return difference(a, uint64(m.x), b, uint64(-m.y))
}

// difference returns a*x - b*y. It needs a result from 0 to the greater one of a and b.
func difference(a []uint64, x uint64, b []uint64, y uint64) []uint64 {
	words := make([]uint64, max(len(a), len(b)))
	carryA, carryB := uint64(0), uint64(0)
	for i := range words {
		highA, lowA := timesPlus(wordAt(a, i), x, carryA)
		highB, lowB := timesPlus(wordAt(b, i), y, carryB)
		words[i] = lowA - lowB
		if lowA < lowB {
			// The factors are far below 2^64, and so are the carries.
			highB++
		}
		carryA, carryB = highA, highB
	}
	return trim(words)
}

// wordAt returns a word of a, or 0 beyond the last one.
func wordAt(a []uint64, i int) uint64 {
	if i < len(a) {
		return a[i]
	}
	return 0
}
