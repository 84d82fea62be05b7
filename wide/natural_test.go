package wide

import (
	"math/big"
	"slices"
	"testing"
)

// pairs calls check with numbers of many lengths, up to far more than MaxWords words of 32 bits.
func pairs(check func(a, b []uint64)) {
	s := source(1)
	lengths := []int{0, 1, 2, 3, 4, 7, 40, 85, 160, 450, 2100}
	for _, n := range lengths {
		for _, m := range lengths {
			check(ones(n), ones(m))
			for range 6 {
				check(s.words(n), s.words(m))
			}
		}
	}
	for range 4000 {
		check(s.words(s.upTo(9)), s.words(s.upTo(5)))
	}
}

func TestNaturalRing(t *testing.T) {
	pairs(func(a, b []uint64) {
		x, y := toBig(a), toBig(b)
		if got := compare(a, b); got != x.Cmp(y) {
			t.Errorf("compare of %d and %d words is %d", len(a), len(b), got)
		}
		if bitLen(a) != x.BitLen() {
			t.Errorf("bitLen of %d words is %d", len(a), bitLen(a))
		}
		sameWords(t, "plus", a, b, plus(a, b), new(big.Int).Add(x, y))
		sameWords(t, "times", a, b, times(a, b), new(big.Int).Mul(x, y))
		if x.Cmp(y) >= 0 {
			sameWords(t, "minus", a, b, minus(a, b), new(big.Int).Sub(x, y))
		}
	})
}

func TestShift(t *testing.T) {
	pairs(func(a, _ []uint64) {
		for _, places := range []int{0, 1, 31, 63} {
			up := shiftUp(a, places)
			if len(up) != len(a)+1 {
				t.Errorf("shiftUp of %d words has %d", len(a), len(up))
			}
			sameWords(t, "shiftUp", a, nil, trim(up), new(big.Int).Lsh(toBig(a), uint(places)))
			sameWords(t, "shiftDown", a, nil, shiftDown(a, places), new(big.Int).Rsh(toBig(a), uint(places)))
		}
	})
}

func TestDivision(t *testing.T) {
	pairs(func(a, b []uint64) {
		if len(b) == 0 {
			return
		}
		q, r := divide(a, b)
		wantQ, wantR := new(big.Int).QuoRem(toBig(a), toBig(b), new(big.Int))
		sameWords(t, "the quotient", a, b, q, wantQ)
		sameWords(t, "the remainder", a, b, r, wantR)
		sameWords(t, "quotient", a, b, quotient(a, b), wantQ)
		sameWords(t, "remainder", a, b, remainder(a, b), wantR)
		word := b[len(b)-1]
		wantR.Rem(toBig(a), new(big.Int).SetUint64(word))
		if rest := remainderWord(a, word); rest != wantR.Uint64() {
			t.Errorf("remainderWord of %d words is %d", len(a), rest)
		}
	})
}

// TestHardQuotients has dividends for which a word of the quotient is guessed too great, by one and by two.
func TestHardQuotients(t *testing.T) {
	const top, all = 1 << 63, 1<<64 - 1
	for _, c := range [][2][]uint64{
		{{0, 0, top, top - 1}, {1, 0, top}}, {{3, 0, top}, {1, 0, 1 << 61}}, {{0, all - 1, top}, {all, top}}, {{0, 0, 0, top}, {all, all, top}}, {{0, all, all, top - 1}, {all, 0, top}}, {{0, 0, all, all, all - 1}, {all, all, all}},
		{{0, 0, top}, {all, top}}, {{all, all - 1, top - 1}, {all, top}}, {{0, 0, 0, top}, {all, top}}, {{0, 0, top, top}, {1, top, top}},
	} {
		q, r := divide(c[0], c[1])
		wantQ, wantR := new(big.Int).QuoRem(toBig(c[0]), toBig(c[1]), new(big.Int))
		sameWords(t, "the quotient", c[0], c[1], q, wantQ)
		sameWords(t, "the remainder", c[0], c[1], r, wantR)
	}
}

// TestDivisionNearMultiples has dividends next to multiples of the divisor, where a quotient is easily off by one.
func TestDivisionNearMultiples(t *testing.T) {
	s := source(2)
	for range 3000 {
		b, factor := s.words(1+s.upTo(5)), s.words(1+s.upTo(5))
		for _, d := range []int64{-1, 0, 1} {
			x := new(big.Int).Mul(toBig(b), toBig(factor))
			x.Add(x, big.NewInt(d))
			a := fromBig(x)
			q, r := divide(a, b)
			wantQ, wantR := new(big.Int).QuoRem(x, toBig(b), new(big.Int))
			sameWords(t, "the quotient", a, b, q, wantQ)
			sameWords(t, "the remainder", a, b, r, wantR)
		}
	}
}

func TestGCD(t *testing.T) {
	s := source(3)
	check := func(a, b []uint64) {
		want := new(big.Int).GCD(nil, nil, toBig(a), toBig(b))
		sameWords(t, "gcd", a, b, gcd(a, b), want)
		sameWords(t, "gcd", b, a, gcd(b, a), want)
	}
	pairs(func(a, b []uint64) {
		if len(a) > 0 && len(b) > 0 {
			check(a, b)
		}
	})
	for range 2000 {
		common := s.words(1 + s.upTo(4))
		check(times(s.words(1+s.upTo(6)), common), times(s.words(1+s.upTo(6)), common))
		check(times(s.words(1), common), common)
	}
	long := s.words(2100)
	check(times(long, s.words(50)), times(long, s.words(60)))
	// Neighbours of Fibonacci's numbers have the most steps.
	low, high := []uint64{1}, []uint64{1}
	for range 3000 {
		low, high = high, plus(low, high)
	}
	check(low, high)
	check(times(low, []uint64{6}), times(high, []uint64{10}))
}

func TestMixes(t *testing.T) {
	s := source(4)
	for range 3000 {
		a, b := s.words(2+s.upTo(4)), s.words(2+s.upTo(4))
		if compare(a, b) < 0 {
			a, b = b, a
		}
		found := leadingSteps(a, b)
		first, second := found.first.of(a, b), found.second.of(a, b)
		x, y := toBig(a), toBig(b)
		for !slices.Equal(first, fromBig(x)) && y.Sign() > 0 {
			x, y = y, new(big.Int).Rem(x, y)
		}
		sameWords(t, "first", a, b, first, x)
		sameWords(t, "second", a, b, second, y)
	}
}
