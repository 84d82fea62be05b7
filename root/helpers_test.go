package root_test

import (
	"encoding/binary"
	"math/big"
	"slices"
	"strconv"
	"strings"
	"testing"

	"isochrone/api"
	"isochrone/root"
)

// maxBits is the number of binary digits that Num and Den of a number in an argument may have.
const maxBits = 32 * 200

// source makes numbers that look random and are the same in every run.
type source uint64

func (s *source) next() uint64 {
	*s = *s*6364136223846793005 + 1442695040888963407
	return uint64(*s>>33) | uint64(*s>>1)&^0x7fffffff
}

// upTo returns a number from 0 to n.
func (s *source) upTo(n int) int {
	return int(s.next() >> 20 % uint64(n+1))
}

// fraction returns a number with small parts.
func (s *source) fraction() *big.Rat {
	return big.NewRat(int64(s.upTo(24)-12), int64(1+s.upTo(5)))
}

// odd returns an odd number of exactly so many binary digits.
func (s *source) odd(digits int) *big.Int {
	n := new(big.Int).SetBit(big.NewInt(1), digits-1, 1)
	for i := 1; i < digits-1; i++ {
		n.SetBit(n, i, uint(s.upTo(1)))
	}
	return n
}

// long returns a number whose parts have exactly so many binary digits.
func (s *source) long(digits int) *big.Rat {
	for {
		r := new(big.Rat).SetFrac(s.odd(digits), s.odd(digits))
		if r.Num().BitLen() == digits && r.Denom().BitLen() == digits {
			return r
		}
	}
}

// coefs returns a polynomial of at most the given degree with small coefficients.
func (s *source) coefs(degree int) coefs {
	p := make(coefs, degree+1)
	for i := range p {
		p[i] = s.fraction()
	}
	return p.trimmed()
}

// product returns a polynomial with some rational roots, some of them multiple, times another one.
func (s *source) product(count, rest int) coefs {
	p := s.coefs(rest)
	for range count {
		factor := coefs{s.fraction(), big.NewRat(1, 1)}
		for range 1 + s.upTo(3)/3 {
			p = p.times(factor)
		}
	}
	return p
}

func toBig(a []uint32) *big.Int {
	var digits []byte
	for _, w := range slices.Backward(a) {
		digits = binary.BigEndian.AppendUint32(digits, w)
	}
	return new(big.Int).SetBytes(digits)
}

func fromBig(n *big.Int) []uint32 {
	count := (n.BitLen() + 31) / 32
	digits := n.FillBytes(make([]byte, 4*count))
	a := make([]uint32, count)
	for i := range a {
		a[i] = binary.BigEndian.Uint32(digits[4*(count-1-i):])
	}
	return a
}

func toBigRat(a api.Rat) *big.Rat {
	r := new(big.Rat).SetFrac(toBig(a.Num), toBig(a.Den))
	if a.Neg {
		r.Neg(r)
	}
	return r
}

func fromBigRat(r *big.Rat) api.Rat {
	return api.Rat{Neg: r.Sign() < 0, Num: fromBig(r.Num()), Den: fromBig(r.Denom())}
}

// fraction makes a number of a text that math/big can read.
func fraction(text string) *big.Rat {
	r, ok := new(big.Rat).SetString(text)
	if !ok {
		panic("no number: " + text)
	}
	return r
}

func number(text string) api.Rat {
	return fromBigRat(fraction(text))
}

// power returns 2^n, or 1/2^-n.
func power(n int) *big.Rat {
	if n < 0 {
		return new(big.Rat).Inv(power(-n))
	}
	return new(big.Rat).SetInt(new(big.Int).Lsh(big.NewInt(1), uint(n)))
}

func plus(a, b *big.Rat) *big.Rat  { return new(big.Rat).Add(a, b) }
func minus(a, b *big.Rat) *big.Rat { return new(big.Rat).Sub(a, b) }
func times(a, b *big.Rat) *big.Rat { return new(big.Rat).Mul(a, b) }
func over(a, b *big.Rat) *big.Rat  { return new(big.Rat).Quo(a, b) }
func neg(a *big.Rat) *big.Rat      { return new(big.Rat).Neg(a) }
func whole(n int) *big.Rat         { return big.NewRat(int64(n), 1) }

func middle(a, b *big.Rat) *big.Rat {
	return over(plus(a, b), whole(2))
}

// parse reads the coefficients of a polynomial from the constant upwards, with blanks between them.
func parse(text string) coefs {
	var p coefs
	for _, part := range strings.Fields(text) {
		p = append(p, fraction(part))
	}
	return p
}

// read makes a coefficient list of a text.
func read(text string) []api.Rat {
	return parse(text).list()
}

// roots returns the polynomial with the given roots.
func roots(texts ...string) coefs {
	p := parse("1")
	for _, text := range texts {
		p = p.times(coefs{neg(fraction(text)), whole(1)})
	}
	return p
}

// monomial returns c times x^n.
func monomial(c *big.Rat, n int) coefs {
	p := make(coefs, n+1)
	for i := range p {
		p[i] = new(big.Rat)
	}
	p[n] = c
	return p
}

// fromList takes a coefficient list.
func fromList(c []api.Rat) coefs {
	var p coefs
	for _, x := range c {
		p = append(p, toBigRat(x))
	}
	return p
}

// rootOf makes a Root of texts.
func rootOf(poly, lo, hi string) api.Root {
	return api.Root{Poly: read(poly), Lo: number(lo), Hi: number(hi)}
}

func cloneRat(a api.Rat) api.Rat {
	return api.Rat{Neg: a.Neg, Num: slices.Clone(a.Num), Den: slices.Clone(a.Den)}
}

func cloneList(c []api.Rat) []api.Rat {
	copied := slices.Clone(c)
	for i, x := range c {
		copied[i] = cloneRat(x)
	}
	return copied
}

func cloneRoot(r api.Root) api.Root {
	return api.Root{Poly: cloneList(r.Poly), Lo: cloneRat(r.Lo), Hi: cloneRat(r.Hi)}
}

func equalNumbers(a, b api.Rat) bool {
	return a.Neg == b.Neg && slices.Equal(a.Num, b.Num) && slices.Equal(a.Den, b.Den)
}

func equalLists(a, b []api.Rat) bool {
	return slices.EqualFunc(a, b, equalNumbers)
}

func equalRoots(a, b api.Root) bool {
	return equalLists(a.Poly, b.Poly) && equalNumbers(a.Lo, b.Lo) && equalNumbers(a.Hi, b.Hi)
}

// brief writes a number for a message.
func brief(a api.Rat) string {
	if len(a.Num) > 4 || len(a.Den) > 4 {
		return "<" + strconv.Itoa(len(a.Num)) + "/" + strconv.Itoa(len(a.Den)) + " words>"
	}
	if len(a.Den) == 0 {
		return "none"
	}
	return toBigRat(a).RatString()
}

func briefList(c []api.Rat) string {
	if len(c) > 14 {
		return "[" + strconv.Itoa(len(c)) + " numbers]"
	}
	var parts []string
	for _, x := range c {
		parts = append(parts, brief(x))
	}
	return "[" + strings.Join(parts, " ") + "]"
}

func briefRoot(r api.Root) string {
	return briefList(r.Poly) + " from " + brief(r.Lo) + " to " + brief(r.Hi)
}

// same checks a list. With an error it must be empty.
func same(t *testing.T, what string, got []api.Rat, e api.Errno, want []api.Rat, wantErr api.Errno) {
	t.Helper()
	if e != wantErr || !equalLists(got, want) {
		t.Errorf("%s is %s with error %d, not %s with error %d", what, briefList(got), e, briefList(want), wantErr)
	}
	if e == api.OK && !root.Valid(got) {
		t.Errorf("%s is not valid: %s", what, briefList(got))
	}
}

// fails checks a list that should be an error.
func fails(t *testing.T, what string, got []api.Rat, e, want api.Errno) {
	t.Helper()
	same(t, what, got, e, nil, want)
}

// sameNumber checks a number. With an error it must be zero.
func sameNumber(t *testing.T, what string, got api.Rat, e api.Errno, want api.Rat, wantErr api.Errno) {
	t.Helper()
	if e != wantErr || !equalNumbers(got, want) {
		t.Errorf("%s is %s with error %d, not %s with error %d", what, brief(got), e, brief(want), wantErr)
	}
}

// sameInt checks a sign, an order or a count. With an error it must be zero.
func sameInt(t *testing.T, what string, got int, e api.Errno, want int, wantErr api.Errno) {
	t.Helper()
	if e != wantErr || got != want {
		t.Errorf("%s is %d with error %d, not %d with error %d", what, got, e, want, wantErr)
	}
}

// sameRoot checks a Root. With an error it must be zero.
func sameRoot(t *testing.T, what string, got api.Root, e api.Errno, want api.Root, wantErr api.Errno) {
	t.Helper()
	if e != wantErr || !equalRoots(got, want) {
		t.Errorf("%s is %s with error %d, not %s with error %d", what, briefRoot(got), e, briefRoot(want), wantErr)
	}
	if e == api.OK && !root.ValidRoot(got) {
		t.Errorf("%s is not valid: %s", what, briefRoot(got))
	}
}

// sameRoots checks a list of Roots. With an error it must be empty.
func sameRoots(t *testing.T, what string, got []api.Root, e api.Errno, want []api.Root, wantErr api.Errno) {
	t.Helper()
	if e != wantErr || len(got) != len(want) {
		t.Errorf("%s has %d roots and error %d, not %d roots and error %d", what, len(got), e, len(want), wantErr)
		return
	}
	for i := range got {
		sameRoot(t, what+", number "+strconv.Itoa(i), got[i], api.OK, want[i], api.OK)
	}
}

// must returns the result of a call that may not fail.
func must[T any](t *testing.T) func(result T, e api.Errno) T {
	return func(result T, e api.Errno) T {
		t.Helper()
		if e != api.OK {
			t.Fatalf("error %d", e)
		}
		return result
	}
}
