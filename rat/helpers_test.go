package rat_test

import (
	"encoding/binary"
	"math/big"
	"slices"
	"strconv"
	"testing"

	"isochrone/api"
	"isochrone/rat"
)

// maxBits is the number of binary digits that Num and Den may have.
const maxBits = 32 * api.MaxWords

// source makes numbers that look random and are the same in every run.
type source uint64

func (s *source) next() uint64 {
	*s = *s*6364136223846793005 + 1442695040888963407
	return uint64(*s>>33) | uint64(*s>>1)&^0x7fffffff
}

// upTo returns a number from 0 to n.
func (s *source) upTo(n int) int {
	return int(s.next() >> 20 % uint64(n+1))
}

// words returns a natural number of n words, with runs of zeros and of ones.
func (s *source) words(n int) *big.Int {
	a := make([]uint32, n)
	for i := range a {
		a[i] = [...]uint32{0, 0xffffffff, 1 << s.upTo(31), uint32(s.next()), uint32(s.next())}[s.upTo(4)]
	}
	if n > 0 && a[n-1] == 0 {
		a[n-1] = 1
	}
	return toBig(a)
}

// number returns a number whose parts have at most n words.
func (s *source) number(n int) *big.Rat {
	den := s.words(1 + s.upTo(n-1))
	r := new(big.Rat).SetFrac(s.words(s.upTo(n)), den)
	if s.upTo(1) == 1 {
		r.Neg(r)
	}
	return r
}

// small returns a number with small parts, whose denominators have many factors in common.
func (s *source) small() *big.Rat {
	return big.NewRat(int64(s.upTo(48)-24), int64(1+s.upTo(23)))
}

func toBig(a []uint32) *big.Int {
	var digits []byte
	for _, w := range slices.Backward(a) {
		digits = binary.BigEndian.AppendUint32(digits, w)
	}
	return new(big.Int).SetBytes(digits)
}

func fromBig(n *big.Int) []uint32 {
	count := (n.BitLen() + 31) / 32
	digits := n.FillBytes(make([]byte, 4*count))
	a := make([]uint32, count)
	for i := range a {
		a[i] = binary.BigEndian.Uint32(digits[4*(count-1-i):])
	}
	return a
}

func toBigRat(a api.Rat) *big.Rat {
	r := new(big.Rat).SetFrac(toBig(a.Num), toBig(a.Den))
	if a.Neg {
		r.Neg(r)
	}
	return r
}

func fromBigRat(r *big.Rat) api.Rat {
	return api.Rat{Neg: r.Sign() < 0, Num: fromBig(r.Num()), Den: fromBig(r.Denom())}
}

// number makes a number of a text that math/big can read.
func number(s string) api.Rat {
	r, ok := new(big.Rat).SetString(s)
	if !ok {
		panic("no number: " + s)
	}
	return fromBigRat(r)
}

// power returns 2^n + d.
func power(n uint, d int64) *big.Int {
	p := new(big.Int).Lsh(big.NewInt(1), n)
	return p.Add(p, big.NewInt(d))
}

// over makes a number of its parts.
func over(num, den *big.Int) api.Rat {
	return fromBigRat(new(big.Rat).SetFrac(num, den))
}

func whole(num *big.Int) api.Rat {
	return over(num, big.NewInt(1))
}

// negative returns -a.
func negative(a api.Rat) api.Rat {
	return fromBigRat(new(big.Rat).Neg(toBigRat(a)))
}

// ones returns the greatest magnitude of n words.
func ones(n int) []uint32 {
	return slices.Repeat([]uint32{0xffffffff}, n)
}

// brief writes a number for a message.
func brief(a api.Rat) string {
	if len(a.Num) > 4 || len(a.Den) > 4 {
		return strconv.Itoa(len(a.Num)) + "/" + strconv.Itoa(len(a.Den)) + " words"
	}
	sign := ""
	if a.Neg {
		sign = "-"
	}
	return sign + toBig(a.Num).String() + "/" + toBig(a.Den).String()
}

func equal(a, b api.Rat) bool {
	return a.Neg == b.Neg && slices.Equal(a.Num, b.Num) && slices.Equal(a.Den, b.Den)
}

// same checks a result. With an error the result must be zero.
func same(t *testing.T, what string, got api.Rat, e api.Errno, want api.Rat, wantErr api.Errno) {
	t.Helper()
	if e != wantErr || !equal(got, want) {
		t.Errorf("%s is %s with error %d, not %s with error %d", what, brief(got), e, brief(want), wantErr)
	}
	if e == api.OK && !rat.Valid(got) {
		t.Errorf("%s is not valid", what)
	}
}

// sameOrLong checks a result that is an ErrLimit if its numbers are too long.
func sameOrLong(t *testing.T, what string, got api.Rat, e api.Errno, want *big.Rat) {
	t.Helper()
	if want.Num().BitLen() > maxBits || want.Denom().BitLen() > maxBits {
		same(t, what, got, e, api.Rat{}, api.ErrLimit)
		return
	}
	same(t, what, got, e, fromBigRat(want), api.OK)
}

// must returns the result of a call that may not fail.
func must(t *testing.T) func(r api.Rat, e api.Errno) api.Rat {
	return func(r api.Rat, e api.Errno) api.Rat {
		t.Helper()
		if e != api.OK {
			t.Fatalf("error %d", e)
		}
		return r
	}
}
