package wide

import (
	"encoding/binary"
	"math/big"
	"slices"
	"testing"
)

// source makes numbers that look random and are the same in every run.
type source uint64

func (s *source) next() uint64 {
	*s ^= *s << 13
	*s ^= *s >> 7
	*s ^= *s << 17
	return uint64(*s)
}

// upTo returns a number from 0 to n.
func (s *source) upTo(n int) int {
	return int(s.next() >> 1 % uint64(n+1))
}

// words returns a natural number of n words, many of which are all zeros or all ones: these are the hard cases of carries and quotients.
func (s *source) words(n int) []uint64 {
	a := make([]uint64, n)
	for i := range a {
		a[i] = [...]uint64{0, 1<<64 - 1, 1 << s.upTo(63), s.next(), s.next()}[s.upTo(4)]
	}
	if n > 0 && a[n-1] == 0 {
		a[n-1] = 1 << s.upTo(63)
	}
	return a
}

// ratio returns a number whose parts have at most n words.
func (s *source) ratio(n int) *big.Rat {
	r := new(big.Rat).SetFrac(toBig(s.words(s.upTo(n))), toBig(s.words(1+s.upTo(n-1))))
	if s.upTo(1) == 1 {
		r.Neg(r)
	}
	return r
}

// small returns a number with small parts, whose denominators have many factors in common.
func (s *source) small() *big.Rat {
	return big.NewRat(int64(s.upTo(48)-24), int64(1+s.upTo(23)))
}

// ones returns the greatest number of n words.
func ones(n int) []uint64 {
	return slices.Repeat([]uint64{1<<64 - 1}, n)
}

func toBig(a []uint64) *big.Int {
	var digits []byte
	for _, w := range slices.Backward(a) {
		digits = binary.BigEndian.AppendUint64(digits, w)
	}
	return new(big.Int).SetBytes(digits)
}

func fromBig(n *big.Int) []uint64 {
	count := (n.BitLen() + 63) / 64
	digits := n.FillBytes(make([]byte, 8*count))
	a := make([]uint64, count)
	for i := range a {
		a[i] = binary.BigEndian.Uint64(digits[8*(count-1-i):])
	}
	return a
}

func toBigRat(a Num) *big.Rat {
	if a.IsZero() {
		return new(big.Rat)
	}
	r := new(big.Rat).SetFrac(toBig(a.num), toBig(a.den))
	if a.neg {
		r.Neg(r)
	}
	return r
}

func fromBigRat(r *big.Rat) Num {
	if r.Sign() == 0 {
		return Num{}
	}
	return Num{r.Sign() < 0, fromBig(r.Num()), fromBig(r.Denom())}
}

// sameWords checks a natural number: its words must be those of the number, with no zeros before them.
func sameWords(t *testing.T, what string, a, b, got []uint64, want *big.Int) {
	t.Helper()
	if !slices.Equal(got, fromBig(want)) {
		t.Errorf("%s of %d and %d words is wrong: %v and %v", what, len(a), len(b), a[:min(len(a), 4)], b[:min(len(b), 4)])
	}
}

// same checks a number: it must be in lowest terms.
func same(t *testing.T, what string, got Num, want *big.Rat) {
	t.Helper()
	number := fromBigRat(want)
	if got.neg != number.neg || !slices.Equal(got.num, number.num) || !slices.Equal(got.den, number.den) {
		t.Errorf("%s is %v, not %v", what, brief(got), brief(number))
	}
}

func brief(a Num) string {
	text := toBigRat(a).RatString()
	return text[:min(len(text), 60)]
}
