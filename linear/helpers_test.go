package linear_test

import (
	"encoding/binary"
	"math/big"
	"slices"
	"strconv"
	"strings"
	"testing"

	"isochrone/api"
	"isochrone/linear"
)

// The numbers of binary digits that Num and Den of a number may have: in a line, and in a point, a refutation or coefs.
const (
	lineBits = 32 * 20
	maxBits  = 32 * 200
)

// source makes numbers that look random and are the same in every run.
type source uint64

func (s *source) next() uint64 {
	*s = *s*6364136223846793005 + 1442695040888963407
	return uint64(*s>>33) | uint64(*s>>1)&^0x7fffffff
}

// upTo returns a number from 0 to n.
func (s *source) upTo(n int) int {
	return int(s.next() >> 20 % uint64(n+1))
}

// small returns a small integer, often 0.
func (s *source) small() *big.Rat {
	return big.NewRat(int64(s.upTo(3)*(s.upTo(2)-1)), 1)
}

// fraction returns a number with small parts.
func (s *source) fraction() *big.Rat {
	return big.NewRat(int64(s.upTo(24)-12), int64(1+s.upTo(5)))
}

// odd returns an odd number of exactly so many binary digits.
func (s *source) odd(digits int) *big.Int {
	n := new(big.Int).SetBit(big.NewInt(1), digits-1, 1)
	for i := 1; i < digits-1; i++ {
		n.SetBit(n, i, uint(s.upTo(1)))
	}
	return n
}

// ratio returns a positive number whose parts have exactly so many binary digits.
func (s *source) ratio(above, below int) *big.Rat {
	for {
		r := new(big.Rat).SetFrac(s.odd(above), s.odd(below))
		if r.Num().BitLen() == above && r.Denom().BitLen() == below {
			return r
		}
	}
}

// long returns a number whose parts have exactly so many binary digits, with any sign.
func (s *source) long(digits int) *big.Rat {
	r := s.ratio(digits, digits)
	if s.upTo(1) == 1 {
		r.Neg(r)
	}
	return r
}

// line returns a line with coefficients from one function and a constant from another one; strict lines and equations are rarer.
func (s *source) line(n int, coef, constant func() *big.Rat) api.Line {
	l := api.Line{Rel: [...]int{1, 1, 1, 1, 2, 2, 0}[s.upTo(6)], Const: fromBigRat(constant())}
	for range n {
		l.Coefs = append(l.Coefs, fromBigRat(coef()))
	}
	return l
}

// system returns a system with small numbers.
func (s *source) system(n, count int) []api.Line {
	coef := s.small
	if s.upTo(3) == 0 {
		coef = s.fraction
	}
	list := make([]api.Line, count)
	for k := range list {
		list[k] = s.line(n, coef, s.fraction)
	}
	return list
}

func toBig(a []uint32) *big.Int {
	var digits []byte
	for _, w := range slices.Backward(a) {
		digits = binary.BigEndian.AppendUint32(digits, w)
	}
	return new(big.Int).SetBytes(digits)
}

func fromBig(n *big.Int) []uint32 {
	count := (n.BitLen() + 31) / 32
	digits := n.FillBytes(make([]byte, 4*count))
	a := make([]uint32, count)
	for i := range a {
		a[i] = binary.BigEndian.Uint32(digits[4*(count-1-i):])
	}
	return a
}

func toBigRat(a api.Rat) *big.Rat {
	r := new(big.Rat).SetFrac(toBig(a.Num), toBig(a.Den))
	if a.Neg {
		r.Neg(r)
	}
	return r
}

func fromBigRat(r *big.Rat) api.Rat {
	return api.Rat{Neg: r.Sign() < 0, Num: fromBig(r.Num()), Den: fromBig(r.Denom())}
}

// number makes a number of a text that math/big can read.
func number(text string) api.Rat {
	r, ok := new(big.Rat).SetString(text)
	if !ok {
		panic("no number: " + text)
	}
	return fromBigRat(r)
}

// power returns 2^n, or 1/2^-n.
func power(n int) *big.Rat {
	if n < 0 {
		return new(big.Rat).Inv(power(-n))
	}
	return new(big.Rat).SetInt(new(big.Int).Lsh(big.NewInt(1), uint(n)))
}

func plus(a, b *big.Rat) *big.Rat  { return new(big.Rat).Add(a, b) }
func minus(a, b *big.Rat) *big.Rat { return new(big.Rat).Sub(a, b) }
func times(a, b *big.Rat) *big.Rat { return new(big.Rat).Mul(a, b) }
func over(a, b *big.Rat) *big.Rat  { return new(big.Rat).Quo(a, b) }
func neg(a *big.Rat) *big.Rat      { return new(big.Rat).Neg(a) }
func whole(n int) *big.Rat         { return big.NewRat(int64(n), 1) }

// read makes a list of numbers of a text with blanks between them.
func read(text string) []api.Rat {
	var list []api.Rat
	for _, part := range strings.Fields(text) {
		list = append(list, number(part))
	}
	return list
}

// line makes a line of its coefficients, "=", "<=" or "<", and its constant.
func line(text string) api.Line {
	parts := strings.Fields(text)
	last := len(parts) - 1
	rel := slices.Index([]string{"=", "<=", "<"}, parts[last-1])
	return api.Line{Coefs: read(strings.Join(parts[:last-1], " ")), Rel: rel, Const: number(parts[last])}
}

func lines(texts ...string) []api.Line {
	list := make([]api.Line, len(texts))
	for k, text := range texts {
		list[k] = line(text)
	}
	return list
}

// lineOf makes a line of numbers.
func lineOf(rel int, constant *big.Rat, coefs ...*big.Rat) api.Line {
	l := api.Line{Rel: rel, Const: fromBigRat(constant)}
	for _, c := range coefs {
		l.Coefs = append(l.Coefs, fromBigRat(c))
	}
	return l
}

// with returns the lines and some more.
func with(list []api.Line, more ...api.Line) []api.Line {
	return slices.Concat(list, more)
}

// negated returns the opposite number.
func negated(x api.Rat) api.Rat {
	return fromBigRat(neg(toBigRat(x)))
}

// opposite returns a line with the opposite numbers.
func opposite(l api.Line) api.Line {
	m := api.Line{Rel: l.Rel, Const: negated(l.Const)}
	for _, c := range l.Coefs {
		m.Coefs = append(m.Coefs, negated(c))
	}
	return m
}

// zeros returns the texts of n coefficients that are zero.
func zeros(n int) string {
	return strings.Repeat("0 ", n)
}

func cloneRat(a api.Rat) api.Rat {
	return api.Rat{Neg: a.Neg, Num: slices.Clone(a.Num), Den: slices.Clone(a.Den)}
}

func cloneList(c []api.Rat) []api.Rat {
	copied := slices.Clone(c)
	for i, x := range c {
		copied[i] = cloneRat(x)
	}
	return copied
}

func cloneLines(list []api.Line) []api.Line {
	copied := slices.Clone(list)
	for k, l := range list {
		copied[k] = api.Line{Coefs: cloneList(l.Coefs), Rel: l.Rel, Const: cloneRat(l.Const)}
	}
	return copied
}

func equalNumbers(a, b api.Rat) bool {
	return a.Neg == b.Neg && slices.Equal(a.Num, b.Num) && slices.Equal(a.Den, b.Den)
}

func equalLists(a, b []api.Rat) bool {
	return slices.EqualFunc(a, b, equalNumbers)
}

func equalLines(a, b []api.Line) bool {
	return slices.EqualFunc(a, b, func(l, m api.Line) bool {
		return l.Rel == m.Rel && equalNumbers(l.Const, m.Const) && equalLists(l.Coefs, m.Coefs)
	})
}

// brief writes a number for a message.
func brief(a api.Rat) string {
	if len(a.Num) > 4 || len(a.Den) > 4 {
		return "<" + strconv.Itoa(len(a.Num)) + "/" + strconv.Itoa(len(a.Den)) + " words>"
	}
	if len(a.Den) == 0 {
		return "none"
	}
	return toBigRat(a).RatString()
}

func briefList(c []api.Rat) string {
	var parts []string
	for _, x := range c {
		parts = append(parts, brief(x))
	}
	return "[" + strings.Join(parts, " ") + "]"
}

func briefLines(list []api.Line) string {
	var parts []string
	for _, l := range list {
		parts = append(parts, briefList(l.Coefs)+" "+[...]string{"=", "<=", "<"}[l.Rel]+" "+brief(l.Const))
	}
	return "{" + strings.Join(parts, "; ") + "}"
}

// sum returns the sum of products.
func sum(a, b []api.Rat) *big.Rat {
	total := new(big.Rat)
	for i := range a {
		total.Add(total, times(toBigRat(a[i]), toBigRat(b[i])))
	}
	return total
}

// isOn reports whether a point satisfies a line.
func isOn(l api.Line, point []api.Rat) bool {
	sign := sum(l.Coefs, point).Cmp(toBigRat(l.Const))
	return sign == 0 && l.Rel < 2 || sign < 0 && l.Rel > 0
}

func isOnAll(list []api.Line, point []api.Rat) bool {
	return !slices.ContainsFunc(list, func(l api.Line) bool { return !isOn(l, point) })
}

// refutes reports whether a list is a refutation of a system.
func refutes(n int, list []api.Line, refutation []api.Rat) bool {
	coefs := make([]*big.Rat, n)
	for i := range coefs {
		coefs[i] = new(big.Rat)
	}
	constant, strict := new(big.Rat), false
	for k, l := range list {
		x := toBigRat(refutation[k])
		if l.Rel > 0 && x.Sign() < 0 {
			return false
		}
		strict = strict || l.Rel == 2 && x.Sign() > 0
		constant.Add(constant, times(x, toBigRat(l.Const)))
		for i, c := range l.Coefs {
			coefs[i].Add(coefs[i], times(x, toBigRat(c)))
		}
	}
	for _, c := range coefs {
		if c.Sign() != 0 {
			return false
		}
	}
	return constant.Sign() < 0 || constant.Sign() == 0 && strict
}

// solved calls Solve, checks what it returns, and reports whether that is a point.
func solved(t *testing.T, n int, list []api.Line) (point []api.Rat, ok bool) {
	t.Helper()
	point, refutation, e := linear.Solve(n, list)
	if e != api.OK {
		t.Fatalf("Solve of %s has error %d", briefLines(list), e)
	}
	if len(point) == n && len(refutation) == 0 && isOnAll(list, point) {
		if holds, e := linear.Holds(n, list, point); !holds || e != api.OK {
			t.Errorf("Holds of %s and %s is %t, %d", briefLines(list), briefList(point), holds, e)
		}
		return point, true
	}
	if len(point) > 0 || len(refutation) != len(list) || !refutes(n, list, refutation) {
		t.Errorf("Solve of %s is %s and %s", briefLines(list), briefList(point), briefList(refutation))
		return nil, false
	}
	if holds, e := linear.Refutes(n, list, refutation); !holds || e != api.OK {
		t.Errorf("Refutes of %s and %s is %t, %d", briefLines(list), briefList(refutation), holds, e)
	}
	return nil, false
}

// has reports whether the system has a point.
func has(t *testing.T, n int, list []api.Line) bool {
	t.Helper()
	_, ok := solved(t, n, list)
	return ok
}

// must returns the result of a call that may not fail.
func must[T any](t *testing.T) func(result T, e api.Errno) T {
	return func(result T, e api.Errno) T {
		t.Helper()
		if e != api.OK {
			t.Fatalf("error %d", e)
		}
		return result
	}
}

// sameBool checks a result of Holds or Refutes. With an error it must be false.
func sameBool(t *testing.T, what string, got bool, e api.Errno, want bool, wantErr api.Errno) {
	t.Helper()
	if got != want || e != wantErr {
		t.Errorf("%s is %t with error %d, not %t with error %d", what, got, e, want, wantErr)
	}
}

// failsSolved checks that each function with a budget returns an error and nothing else.
func failsSolved(t *testing.T, what string, n int, list []api.Line, coefs []api.Rat, i int, want api.Errno) {
	t.Helper()
	if point, refutation, e := linear.Solve(n, list); e != want || len(point)+len(refutation) > 0 {
		t.Errorf("Solve of %s is %s, %s with error %d, not %d", what, briefList(point), briefList(refutation), e, want)
	}
	if kind, sup, e := linear.Max(n, list, coefs); e != want || kind != 0 || !equalNumbers(sup, api.Rat{}) {
		t.Errorf("Max of %s is %d, %s with error %d, not %d", what, kind, brief(sup), e, want)
	}
	if got, e := linear.Project(n, list, i); e != want || len(got) > 0 {
		t.Errorf("Project of %s has %d lines and error %d, not %d", what, len(got), e, want)
	}
}
