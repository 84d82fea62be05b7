package nat_test

import (
	"math/big"
	"slices"
	"strconv"
	"strings"
	"testing"

	"isochrone/api"
	"isochrone/nat"
)

// source makes numbers that look random and are the same in every run.
type source uint64

func (s *source) next() uint64 {
	*s ^= *s << 13
	*s ^= *s >> 7
	*s ^= *s << 17
	return uint64(*s)
}

// upTo returns a number from 0 to n.
func (s *source) upTo(n int) int {
	return int(s.next() >> 1 % uint64(n+1))
}

// magnitude returns a magnitude of n words, many of which are all zeros or all ones: these are the hard cases of carries and quotients.
func (s *source) magnitude(n int) []uint32 {
	a := make([]uint32, n)
	for i := range a {
		switch s.upTo(4) {
		case 0:
			a[i] = 0
		case 1:
			a[i] = 0xffffffff
		case 2:
			a[i] = 1 << s.upTo(31)
		default:
			a[i] = uint32(s.next() >> 16)
		}
	}
	if n > 0 && a[n-1] == 0 {
		a[n-1] = 1 << s.upTo(31)
	}
	return a
}

// ones returns the greatest magnitude of n words.
func ones(n int) []uint32 {
	return slices.Repeat([]uint32{0xffffffff}, n)
}

// power returns 2^n.
func power(n int) []uint32 {
	a := make([]uint32, n/32+1)
	a[n/32] = 1 << (n % 32)
	return a
}

func toBig(a []uint32) *big.Int {
	digits := make([]byte, 0, 4*len(a))
	for _, w := range slices.Backward(a) {
		digits = append(digits, byte(w>>24), byte(w>>16), byte(w>>8), byte(w))
	}
	return new(big.Int).SetBytes(digits)
}

func fromBig(n *big.Int) []uint32 {
	digits := n.Bytes()
	a := make([]uint32, (len(digits)+3)/4)
	for i, d := range digits {
		place := len(digits) - 1 - i
		a[place/4] |= uint32(d) << (8 * (place % 4))
	}
	return a
}

// brief writes a magnitude for a message.
func brief(a []uint32) string {
	if len(a) > 8 {
		return strconv.Itoa(len(a)) + " words"
	}
	words := make([]string, len(a))
	for i, w := range a {
		words[i] = strconv.FormatUint(uint64(w), 10)
	}
	return "[" + strings.Join(words, " ") + "]"
}

// same checks a result. With an error the result must be zero.
func same(t *testing.T, what string, got []uint32, e api.Errno, want []uint32, wantErr api.Errno) {
	t.Helper()
	if e != wantErr || !slices.Equal(got, want) {
		t.Errorf("%s is %s with error %d, not %s with error %d", what, brief(got), e, brief(want), wantErr)
	}
	if !nat.Valid(got) {
		t.Errorf("%s is not valid", what)
	}
}

func mustParse(t *testing.T, s string) []uint32 {
	t.Helper()
	a, e := nat.Parse(s)
	if e != api.OK {
		t.Fatalf("Parse(%q) is error %d", s, e)
	}
	return a
}
