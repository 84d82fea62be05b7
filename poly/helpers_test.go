package poly_test

import (
	"encoding/binary"
	"maps"
	"math/big"
	"slices"
	"strconv"
	"strings"
	"testing"

	"isochrone/api"
	"isochrone/poly"
)

// maxBits is the number of binary digits that Num and Den of a coefficient may have.
const maxBits = 32 * 200

// source makes numbers that look random and are the same in every run.
type source uint64

func (s *source) next() uint64 {
	*s = *s*6364136223846793005 + 1442695040888963407
	return uint64(*s>>33) | uint64(*s>>1)&^0x7fffffff
}

// upTo returns a number from 0 to n.
func (s *source) upTo(n int) int {
	return int(s.next() >> 20 % uint64(n+1))
}

// fraction returns a number with small parts.
func (s *source) fraction() *big.Rat {
	return big.NewRat(int64(s.upTo(24)-12), int64(1+s.upTo(5)))
}

// odd returns an odd number of exactly n words of 32 bits.
func (s *source) odd(n int) *big.Int {
	words := make([]uint32, n)
	for i := range words {
		words[i] = uint32(s.next()) | 1
	}
	words[n-1] |= 1 << 31
	return toBig(words)
}

// long returns a number whose parts have exactly n words.
func (s *source) long(n int) *big.Rat {
	for {
		r := new(big.Rat).SetFrac(s.odd(n), s.odd(n))
		if r.Num().BitLen() == 32*n && r.Denom().BitLen() == 32*n {
			return r
		}
	}
}

// sparse returns a polynomial in n variables of at most count terms with exponents up to most.
func (s *source) sparse(n, count, most int) table {
	p := table{}
	for range count {
		var m key
		for i := range n {
			m[i] = s.upTo(most)
		}
		p.add(m, s.fraction())
	}
	return p
}

func toBig(a []uint32) *big.Int {
	var digits []byte
	for _, w := range slices.Backward(a) {
		digits = binary.BigEndian.AppendUint32(digits, w)
	}
	return new(big.Int).SetBytes(digits)
}

func fromBig(n *big.Int) []uint32 {
	count := (n.BitLen() + 31) / 32
	digits := n.FillBytes(make([]byte, 4*count))
	a := make([]uint32, count)
	for i := range a {
		a[i] = binary.BigEndian.Uint32(digits[4*(count-1-i):])
	}
	return a
}

func toBigRat(a api.Rat) *big.Rat {
	r := new(big.Rat).SetFrac(toBig(a.Num), toBig(a.Den))
	if a.Neg {
		r.Neg(r)
	}
	return r
}

func fromBigRat(r *big.Rat) api.Rat {
	return api.Rat{Neg: r.Sign() < 0, Num: fromBig(r.Num()), Den: fromBig(r.Denom())}
}

// fraction makes a number of a text that math/big can read.
func fraction(text string) *big.Rat {
	r, ok := new(big.Rat).SetString(text)
	if !ok {
		panic("no number: " + text)
	}
	return r
}

func number(text string) api.Rat {
	return fromBigRat(fraction(text))
}

// power returns 2^n, or 1/2^-n.
func power(n int) *big.Rat {
	if n < 0 {
		return new(big.Rat).Inv(power(-n))
	}
	return new(big.Rat).SetInt(new(big.Int).Lsh(big.NewInt(1), uint(n)))
}

// key has the exponents of a term.
type key [api.MaxVars]int

// table is a polynomial as a table from exponents to coefficients that are not zero. Its functions are the simplest ones that there are, to compare with.
type table map[key]*big.Rat

func (p table) add(m key, c *big.Rat) {
	sum := new(big.Rat).Set(c)
	if old, ok := p[m]; ok {
		sum.Add(sum, old)
	}
	p[m] = sum
	if sum.Sign() == 0 {
		delete(p, m)
	}
}

func (p table) plus(q table) table {
	sum := maps.Clone(p)
	for m, c := range q {
		sum.add(m, c)
	}
	return sum
}

func (p table) times(q table) table {
	product := table{}
	for m, c := range p {
		for k, d := range q {
			both := m
			for i := range both {
				both[i] += k[i]
			}
			product.add(both, new(big.Rat).Mul(c, d))
		}
	}
	return product
}

func (p table) scaled(c *big.Rat) table {
	return p.times(table{key{}: c})
}

func (p table) pow(k int) table {
	power := table{key{}: big.NewRat(1, 1)}
	for range k {
		power = power.times(p)
	}
	return power
}

func (p table) deriv(i int) table {
	d := table{}
	for m, c := range p {
		if k := m[i]; k > 0 {
			m[i]--
			d.add(m, new(big.Rat).Mul(c, big.NewRat(int64(k), 1)))
		}
	}
	return d
}

func (p table) coef(i, k int) table {
	part := table{}
	for m, c := range p {
		if m[i] == k {
			m[i] = 0
			part.add(m, c)
		}
	}
	return part
}

func (p table) subst(i int, q table) table {
	sum := table{}
	for k := range api.MaxDegree + 1 {
		if part := p.coef(i, k); len(part) > 0 {
			sum = sum.plus(part.times(q.pow(k)))
		}
	}
	return sum
}

func (p table) eval(at []*big.Rat) *big.Rat {
	sum := new(big.Rat)
	for m, c := range p {
		value := new(big.Rat).Set(c)
		for i, x := range at {
			for range m[i] {
				value.Mul(value, x)
			}
		}
		sum.Add(sum, value)
	}
	return sum
}

// poly returns the polynomial in n variables, which is not valid if it breaks a limit.
func (p table) poly(n int) api.Poly {
	order := slices.SortedFunc(maps.Keys(p), func(a, b key) int { return slices.Compare(b[:], a[:]) })
	made := api.Poly{N: n}
	for _, m := range order {
		made.Terms = append(made.Terms, api.Mono{Exps: slices.Clone(m[:n]), Coef: fromBigRat(p[m])})
	}
	return made
}

// monomial returns a term as a table.
func monomial(c *big.Rat, exps ...int) table {
	var m key
	copy(m[:], exps)
	p := table{}
	p.add(m, c)
	return p
}

// parse reads the form that Text writes; terms may be in any order.
func parse(text string) table {
	p := table{}
	for _, part := range strings.Split(text, " + ") {
		coef, rest, _ := strings.Cut(part, "*")
		var m key
		for _, factor := range strings.Split(rest, "*") {
			if factor == "" {
				continue
			}
			name, exponent, found := strings.Cut(factor, "^")
			if !found {
				exponent = "1"
			}
			i, e := strconv.Atoi(strings.TrimPrefix(name, "x"))
			k, f := strconv.Atoi(exponent)
			if e != nil || f != nil {
				panic("no term: " + part)
			}
			m[i] += k
		}
		p.add(m, fraction(coef))
	}
	return p
}

// read makes a polynomial in n variables of a text.
func read(n int, text string) api.Poly {
	return parse(text).poly(n)
}

// brief writes a polynomial for a message.
func brief(p api.Poly) string {
	if len(p.Terms) > 6 {
		return "a polynomial of " + strconv.Itoa(len(p.Terms)) + " terms"
	}
	text := "[" + strconv.Itoa(p.N) + "]"
	for _, m := range p.Terms {
		text += " " + briefNumber(m.Coef) + "*"
		for _, k := range m.Exps {
			text += "," + strconv.Itoa(k)
		}
	}
	return text
}

func briefNumber(a api.Rat) string {
	if len(a.Num) > 4 || len(a.Den) > 4 {
		return strconv.Itoa(len(a.Num)) + "/" + strconv.Itoa(len(a.Den)) + " words"
	}
	if len(a.Den) == 0 {
		return "none"
	}
	return toBigRat(a).RatString()
}

func equalNumbers(a, b api.Rat) bool {
	return a.Neg == b.Neg && slices.Equal(a.Num, b.Num) && slices.Equal(a.Den, b.Den)
}

func equal(p, q api.Poly) bool {
	return p.N == q.N && slices.EqualFunc(p.Terms, q.Terms, func(s, t api.Mono) bool {
		return slices.Equal(s.Exps, t.Exps) && equalNumbers(s.Coef, t.Coef)
	})
}

func clone(p api.Poly) api.Poly {
	copied := api.Poly{N: p.N, Terms: slices.Clone(p.Terms)}
	for i, m := range p.Terms {
		copied.Terms[i] = api.Mono{Exps: slices.Clone(m.Exps), Coef: api.Rat{Neg: m.Coef.Neg, Num: slices.Clone(m.Coef.Num), Den: slices.Clone(m.Coef.Den)}}
	}
	return copied
}

// same checks a result. With an error the result must be zero.
func same(t *testing.T, what string, got api.Poly, e api.Errno, want api.Poly, wantErr api.Errno) {
	t.Helper()
	if e != wantErr || !equal(got, want) {
		t.Errorf("%s is %s with error %d, not %s with error %d", what, brief(got), e, brief(want), wantErr)
	}
	if e == api.OK && !poly.Valid(got) {
		t.Errorf("%s is not valid", what)
	}
}

// sameNumber checks a value. With an error it must be zero.
func sameNumber(t *testing.T, what string, got api.Rat, e api.Errno, want api.Rat, wantErr api.Errno) {
	t.Helper()
	if e != wantErr || !equalNumbers(got, want) {
		t.Errorf("%s is %s with error %d, not %s with error %d", what, briefNumber(got), e, briefNumber(want), wantErr)
	}
}

// fails checks a result that should be an error.
func fails(t *testing.T, what string, got api.Poly, e, want api.Errno) {
	t.Helper()
	same(t, what, got, e, api.Poly{}, want)
}

// must returns the result of a call that may not fail.
func must(t *testing.T) func(p api.Poly, e api.Errno) api.Poly {
	return func(p api.Poly, e api.Errno) api.Poly {
		t.Helper()
		if e != api.OK {
			t.Fatalf("error %d", e)
		}
		return p
	}
}

// dense returns the polynomial in n variables with all monomials of degree at most d, with the coefficient 1.
func dense(n, d int) table {
	p := table{}
	var m key
	var fill func(i, left int)
	fill = func(i, left int) {
		if i == n {
			p.add(m, big.NewRat(1, 1))
			return
		}
		for k := range left + 1 {
			m[i] = k
			fill(i+1, left-k)
		}
		m[i] = 0
	}
	fill(0, d)
	return p
}

// filled returns a polynomial in 8 variables with so many terms, at least 3003.
func filled(count int) table {
	p := dense(8, 6)
	for i := 0; len(p) < count; i++ {
		p.add(key{8 + i/200, i % 5, i / 5 % 5, i / 25 % 8}, big.NewRat(2, 3))
	}
	return p
}

// invalid returns polynomials that are not valid.
func invalid() map[string]api.Poly {
	one := number("1")
	with := func(c api.Rat) api.Poly {
		return api.Poly{N: 1, Terms: []api.Mono{{Exps: []int{1}, Coef: c}}}
	}
	of := func(n int, lists ...[]int) api.Poly {
		p := api.Poly{N: n}
		for _, exps := range lists {
			p.Terms = append(p.Terms, api.Mono{Exps: exps, Coef: one})
		}
		return p
	}
	return map[string]api.Poly{
		"N below 0": {N: -1}, "N above MaxVars": {N: 9}, "N far above MaxVars": of(9, []int{0, 0, 0, 0, 0, 0, 0, 0, 1}), "no exponents": of(1, nil), "an exponent too few": of(2, []int{1}), "an exponent too many": of(2, []int{1, 0, 0}), "an exponent for no variable": of(0, []int{0}),
		"an exponent below 0": of(2, []int{2, -1}), "an exponent above MaxDegree": of(1, []int{41}), "a degree above MaxDegree": of(3, []int{20, 1, 20}), "exponents that overflow": of(2, []int{1 << 62, 1 << 62}), "a second term of a degree above MaxDegree": of(2, []int{20, 20}, []int{1, 40}),
		"a term twice": of(2, []int{1, 2}, []int{1, 2}), "ascending terms": of(2, []int{0, 2}, []int{1, 0}), "terms sorted by degree": of(2, []int{0, 3}, []int{1, 1}), "ascending last exponents": of(2, []int{1, 1}, []int{1, 2}), "two constants": of(0, []int{}, []int{}),
		"a coefficient 0": with(number("0")), "no coefficient": with(api.Rat{}), "a negative 0": with(api.Rat{Neg: true, Den: []uint32{1}}), "a coefficient with no denominator": with(api.Rat{Num: []uint32{1}}), "not in lowest terms": with(api.Rat{Num: []uint32{2}, Den: []uint32{4}}),
		"a zero word in Num": with(api.Rat{Num: []uint32{1, 0}, Den: []uint32{1}}), "a zero word in Den": with(api.Rat{Num: []uint32{1}, Den: []uint32{3, 0}}), "201 words in Num": with(fromBigRat(power(maxBits))), "201 words in Den": with(fromBigRat(power(-maxBits))),
		"4097 words in Num": with(fromBigRat(power(32 * 4096))), "too many terms": filled(api.MaxTerms + 1).poly(8), "far too many terms": dense(8, 7).poly(8),
	}
}

// invalidNumbers returns numbers that are not valid.
func invalidNumbers() []api.Rat {
	return []api.Rat{{}, {Num: []uint32{1}}, {Neg: true, Den: []uint32{1}}, {Num: []uint32{2}, Den: []uint32{4}}, {Num: []uint32{1, 0}, Den: []uint32{1}}, {Num: []uint32{1}, Den: []uint32{1, 0}}, fromBigRat(power(32 * 4096)), fromBigRat(power(-32 * 4096))}
}

// partner returns a valid polynomial to go with an invalid one, if possible with the same variables.
func partner(p api.Poly) api.Poly {
	return read(min(max(p.N, 0), 8), "1")
}
