package ideal_test

import (
	"encoding/binary"
	"math/big"
	"slices"
	"strconv"
	"strings"
	"testing"

	"isochrone/api"
	"isochrone/poly"
)

// source makes numbers that look random and are the same in every run.
type source uint64

func (s *source) next() uint64 {
	*s = *s*6364136223846793005 + 1442695040888963407
	return uint64(*s>>33) | uint64(*s>>1)&^0x7fffffff
}

// upTo returns a number from 0 to n.
func (s *source) upTo(n int) int {
	return int(s.next() >> 20 % uint64(n+1))
}

// small returns a small integer that is not zero, or sometimes a fraction of small parts.
func (s *source) small() *big.Rat {
	size := big.NewRat(int64(1+s.upTo(4)), int64(1+s.upTo(3)*s.upTo(1)))
	if s.upTo(1) == 0 {
		size.Neg(size)
	}
	return size
}

// odd returns an odd number of exactly so many binary digits, 1 for none.
func (s *source) odd(digits int) *big.Int {
	n := new(big.Int).SetBit(big.NewInt(1), max(digits-1, 0), 1)
	for i := 1; i < digits-1; i++ {
		n.SetBit(n, i, uint(s.upTo(1)))
	}
	return n
}

// long returns a number with so many binary digits in its parts, with any sign.
func (s *source) long(above, below int) *big.Rat {
	r := new(big.Rat).SetFrac(s.odd(above), s.odd(below))
	if s.upTo(1) == 0 {
		r.Neg(r)
	}
	return r
}

// sparse returns a polynomial in n variables that has about share of ten of the monomials up to a degree.
func (s *source) sparse(n, degree, share int, number func() *big.Rat) api.Poly {
	p := table{}
	for _, m := range monomials(n, degree) {
		if s.upTo(9) < share {
			p[m] = number()
		}
	}
	return p.poly(n)
}

// dense returns a polynomial in n variables with all monomials up to a degree.
func (s *source) dense(n, degree int, number func() *big.Rat) api.Poly {
	return s.sparse(n, degree, 10, number)
}

// generators returns generators within the budget with small numbers.
func (s *source) generators(n, count int) []api.Poly {
	list, share := make([]api.Poly, count), 2+s.upTo(4)
	for i := range list {
		list[i] = s.sparse(n, degreeFor(n), share, s.small)
	}
	return list
}

// degreeFor returns the greatest degree of generators in n variables.
func degreeFor(n int) int {
	if n == 3 {
		return 2
	}
	return 3
}

// member returns a sum of multiples of the generators of at most the given degree.
func (s *source) member(t *testing.T, gens []api.Poly, degree int) api.Poly {
	t.Helper()
	total := api.Poly{N: gens[0].N}
	for _, g := range gens {
		own, _ := poly.Degree(g)
		factor := s.sparse(g.N, degree-max(own, 0), 5, s.small)
		total = must(t)(poly.Add(total, must(t)(poly.Mul(factor, g))))
	}
	return total
}

func toBig(a []uint32) *big.Int {
	var digits []byte
	for _, w := range slices.Backward(a) {
		digits = binary.BigEndian.AppendUint32(digits, w)
	}
	return new(big.Int).SetBytes(digits)
}

func fromBig(n *big.Int) []uint32 {
	count := (n.BitLen() + 31) / 32
	digits := n.FillBytes(make([]byte, 4*count))
	a := make([]uint32, count)
	for i := range a {
		a[i] = binary.BigEndian.Uint32(digits[4*(count-1-i):])
	}
	return a
}

func toBigRat(a api.Rat) *big.Rat {
	r := new(big.Rat).SetFrac(toBig(a.Num), toBig(a.Den))
	if a.Neg {
		r.Neg(r)
	}
	return r
}

func fromBigRat(r *big.Rat) api.Rat {
	return api.Rat{Neg: r.Sign() < 0, Num: fromBig(r.Num()), Den: fromBig(r.Denom())}
}

// power returns 2^n, or 1/2^-n.
func power(n int) *big.Rat {
	if n < 0 {
		return new(big.Rat).Inv(power(-n))
	}
	return new(big.Rat).SetInt(new(big.Int).Lsh(big.NewInt(1), uint(n)))
}

// read makes a polynomial in n variables of a text: terms with " + " between them, each of a number and powers of variables with "*" between them, as poly.Text writes it. Terms may be in any order.
func read(n int, text string) api.Poly {
	p := table{}
	for _, part := range strings.Split(text, " + ") {
		coef, m := big.NewRat(1, 1), key{}
		for _, factor := range strings.Split(part, "*") {
			if strings.HasPrefix(factor, "x") {
				name, exponent, _ := strings.Cut(factor[1:], "^")
				i, _ := strconv.Atoi(name)
				k, e := strconv.Atoi(exponent)
				if e != nil {
					k = 1
				}
				m[i] += k
				continue
			}
			if _, ok := coef.SetString(factor); !ok {
				panic("no number: " + factor)
			}
		}
		p.add(coef, m)
	}
	return p.poly(n)
}

func readAll(n int, texts ...string) []api.Poly {
	list := make([]api.Poly, len(texts))
	for i, text := range texts {
		list[i] = read(n, text)
	}
	return list
}

// show writes polynomials for a message.
func show(list ...api.Poly) string {
	var texts []string
	for _, p := range list {
		text, e := poly.Text(p)
		if e != api.OK {
			text = "an invalid polynomial"
		}
		texts = append(texts, text[:min(len(text), 300)])
	}
	return "[" + strings.Join(texts, ", ") + "]"
}

func equalNumbers(a, b api.Rat) bool {
	return a.Neg == b.Neg && slices.Equal(a.Num, b.Num) && slices.Equal(a.Den, b.Den)
}

func equal(p, q api.Poly) bool {
	return p.N == q.N && slices.EqualFunc(p.Terms, q.Terms, func(s, t api.Mono) bool {
		return slices.Equal(s.Exps, t.Exps) && equalNumbers(s.Coef, t.Coef)
	})
}

func equalLists(a, b []api.Poly) bool {
	return slices.EqualFunc(a, b, equal)
}

func clone(p api.Poly) api.Poly {
	copied := api.Poly{N: p.N, Terms: slices.Clone(p.Terms)}
	for i, m := range p.Terms {
		copied.Terms[i] = api.Mono{Exps: slices.Clone(m.Exps), Coef: api.Rat{Neg: m.Coef.Neg, Num: slices.Clone(m.Coef.Num), Den: slices.Clone(m.Coef.Den)}}
	}
	return copied
}

func cloneList(list []api.Poly) []api.Poly {
	copied := make([]api.Poly, len(list))
	for i, p := range list {
		copied[i] = clone(p)
	}
	return copied
}

// same checks a polynomial that a call returns. With an error it must be zero.
func same(t *testing.T, what string, got api.Poly, e api.Errno, want api.Poly, wantErr api.Errno) {
	t.Helper()
	if e != wantErr || !equal(got, want) {
		t.Errorf("%s is %s with error %d, not %s with error %d", what, show(got), e, show(want), wantErr)
	}
	if e == api.OK && !poly.Valid(got) {
		t.Errorf("%s is not valid", what)
	}
}

// sameList checks polynomials that a call returns. With an error there must be none.
func sameList(t *testing.T, what string, got []api.Poly, e api.Errno, want []api.Poly, wantErr api.Errno) {
	t.Helper()
	if e != wantErr || !equalLists(got, want) {
		t.Errorf("%s is %s with error %d, not %s with error %d", what, show(got...), e, show(want...), wantErr)
	}
	for _, p := range got {
		if !poly.Valid(p) {
			t.Errorf("%s has a polynomial that is not valid", what)
		}
	}
}

// sameValue checks a value that a call returns. With an error it must be zero.
func sameValue[T comparable](t *testing.T, what string, got T, e api.Errno, want T, wantErr api.Errno) {
	t.Helper()
	if got != want || e != wantErr {
		t.Errorf("%s is %v with error %d, not %v with error %d", what, got, e, want, wantErr)
	}
}

// must returns the result of a call that may not fail.
func must(t *testing.T) func(p api.Poly, e api.Errno) api.Poly {
	return func(p api.Poly, e api.Errno) api.Poly {
		t.Helper()
		if e != api.OK {
			t.Fatalf("error %d", e)
		}
		return p
	}
}

// mustList returns the list that a call returns, which may not fail.
func mustList(t *testing.T) func(list []api.Poly, e api.Errno) []api.Poly {
	return func(list []api.Poly, e api.Errno) []api.Poly {
		t.Helper()
		if e != api.OK {
			t.Fatalf("error %d", e)
		}
		return list
	}
}

// longest returns the greatest number of words that Num or Den of a coefficient has.
func longest(list ...api.Poly) int {
	words := 0
	for _, p := range list {
		for _, m := range p.Terms {
			words = max(words, len(m.Coef.Num), len(m.Coef.Den))
		}
	}
	return words
}
