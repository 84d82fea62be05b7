package values

import (
	"math/big"
	"slices"
	"testing"

	"isochrone/api"
)

// source makes numbers that look random and are the same in every run.
type source uint64

func (s *source) next() uint64 {
	*s = *s*6364136223846793005 + 1442695040888963407
	return uint64(*s>>33) | uint64(*s>>1)&^0x7fffffff
}

// upTo returns a number from 0 to n.
func (s *source) upTo(n int) int {
	return int(s.next() >> 20 % uint64(n+1))
}

// integer returns an integer of so many words, with any sign; it is zero for none.
func (s *source) integer(words int) *big.Int {
	n := new(big.Int)
	for range words {
		n.Lsh(n, 32).Add(n, big.NewInt(int64(s.next()>>40|1)))
	}
	if s.upTo(1) == 0 {
		n.Neg(n)
	}
	return n
}

// ratio returns a number whose parts have at most so many words; it may be zero.
func (s *source) ratio(words int) *big.Rat {
	den := s.integer(1 + s.upTo(words-1))
	return new(big.Rat).SetFrac(s.integer(s.upTo(words)), den)
}

func fromBig(n *big.Int) []uint32 {
	var words []uint32
	for rest := new(big.Int).Abs(n); rest.Sign() > 0; rest.Rsh(rest, 32) {
		words = append(words, uint32(rest.Uint64()))
	}
	return words
}

func fromBigRat(r *big.Rat) api.Rat {
	return api.Rat{Neg: r.Sign() < 0, Num: fromBig(r.Num()), Den: fromBig(r.Denom())}
}

func toBig(words []uint32) *big.Int {
	n := new(big.Int)
	for _, w := range slices.Backward(words) {
		n.Lsh(n, 32).Add(n, big.NewInt(int64(w)))
	}
	return n
}

func toBigRat(a api.Rat) *big.Rat {
	r := new(big.Rat).SetFrac(toBig(a.Num), toBig(a.Den))
	if a.Neg {
		r.Neg(r)
	}
	return r
}

// polynomial returns a polynomial in n variables of at most count terms with exponents up to most.
func (s *source) polynomial(n, count, most, words int) api.Poly {
	p := api.Poly{N: n}
	for range count {
		exps := make([]int, n)
		for i := range exps {
			exps[i] = s.upTo(most)
		}
		if c := s.ratio(words); c.Sign() != 0 {
			p.Terms = append(p.Terms, api.Mono{Exps: exps, Coef: fromBigRat(c)})
		}
	}
	descending := func(a, b api.Mono) int { return slices.Compare(b.Exps, a.Exps) }
	slices.SortFunc(p.Terms, descending)
	p.Terms = slices.CompactFunc(p.Terms, func(a, b api.Mono) bool { return descending(a, b) == 0 })
	return p
}

// naive adds up the values of the terms.
func naive(p api.Poly, at []*big.Rat) *big.Rat {
	sum := new(big.Rat)
	for _, m := range p.Terms {
		value := toBigRat(m.Coef)
		for i, k := range m.Exps {
			for range k {
				value.Mul(value, at[i])
			}
		}
		sum.Add(sum, value)
	}
	return sum
}

// check compares with the naive value, and does not let a rough sign be wrong. It reports whether the rough sign is certain.
func check(t *testing.T, p api.Poly, at []*big.Rat) bool {
	t.Helper()
	var point []api.Rat
	for _, x := range at {
		point = append(point, fromBigRat(x))
	}
	want := naive(p, at)
	if got := toBigRat(At(p, point).Rat()); got.Cmp(want) != 0 {
		t.Errorf("the value of %v at %v is %v, not %v", p, at, got, want)
	}
	if got := Sign(p, point); got != want.Sign() {
		t.Errorf("the sign of %v at %v is %d, not that of %v", p, at, got, want)
	}
	rough := roughSign(p, point)
	if rough != 0 && rough != want.Sign() {
		t.Errorf("the rough sign of %v at %v is %d, not that of %v", p, at, rough, want)
	}
	return rough != 0
}

func TestAgainstTerms(t *testing.T) {
	s := source(1)
	zeros := 0
	for round := range 900 {
		n, words := round%9, 1+round/9%4
		p := s.polynomial(n, s.upTo(9), 40/max(n, 1), words)
		at := make([]*big.Rat, n)
		for i := range at {
			at[i] = s.ratio(words)
		}
		isZero := naive(p, at).Sign() == 0
		if isZero {
			zeros++
		}
		if certain := check(t, p, at); certain == isZero {
			t.Errorf("it is %t that the rough sign of %v at %v is certain", certain, p, at)
		}
	}
	if zeros < 90 || zeros > 810 {
		t.Errorf("%d of 900 values are zero", zeros)
	}
}

// TestNearZero has values that are zero, or so near to it that no rough sign is certain, and ones beside them.
func TestNearZero(t *testing.T) {
	s := source(2)
	one := fromBigRat(big.NewRat(1, 1))
	for n := 1; n <= 8; n++ {
		for _, k := range []int{1, 2, 3, 40} {
			for _, places := range []uint{8, 100, 240, 300, 900} {
				p := api.Poly{N: n, Terms: []api.Mono{{Exps: make([]int, n), Coef: one}, {Exps: make([]int, n)}}}
				p.Terms[0].Exps[n-1] = k
				at := make([]*big.Rat, n)
				for i := range at {
					at[i] = s.ratio(5)
				}
				for at[n-1].Sign() == 0 {
					at[n-1] = s.ratio(5)
				}
				power := naive(api.Poly{Terms: p.Terms[:1]}, at)
				p.Terms[1].Coef = fromBigRat(new(big.Rat).Neg(power))
				if check(t, p, at) {
					t.Error("a rough sign of zero is certain")
				}
				step := new(big.Rat).SetFrac(big.NewInt(1), new(big.Int).Lsh(big.NewInt(1), places))
				for _, factor := range []*big.Rat{step, new(big.Rat).Neg(step)} {
					beside := new(big.Rat).Mul(power, factor)
					p.Terms[1].Coef = fromBigRat(beside.Sub(beside, power))
					if got := check(t, p, at); got != (places < 240) && places != 240 {
						t.Errorf("it is %t that the rough sign is certain 2^-%d beside zero", got, places)
					}
				}
			}
		}
	}
}

// TestRoughNumbers has numbers that are far apart, and zeros among them.
func TestRoughNumbers(t *testing.T) {
	far := new(big.Rat).SetInt(new(big.Int).Lsh(big.NewInt(3), 6000))
	near := new(big.Rat).Inv(far)
	zero, minus := new(big.Rat), big.NewRat(-1, 3)
	one := fromBigRat(big.NewRat(1, 1))
	for _, numbers := range [][]*big.Rat{{far, near, minus}, {near, near, far}, {zero, far, near}, {minus, minus, minus}, {zero, zero, zero}, {minus, zero, near}} {
		for _, exps := range [][][]int{{{20, 0, 0}, {0, 40, 0}}, {{1, 0, 0}, {0, 1, 0}, {0, 0, 1}}, {{10, 10, 3}, {0, 1, 2}, {0, 0, 0}}, {{3, 0, 0}}, {{0, 0, 0}}, nil} {
			p := api.Poly{N: 3}
			for _, e := range exps {
				p.Terms = append(p.Terms, api.Mono{Exps: e, Coef: one})
			}
			check(t, p, numbers)
			for i := range p.Terms {
				p.Terms[i].Coef.Neg = i%2 == 0
			}
			check(t, p, numbers)
		}
	}
}

// TestManyLongNumbers: the sign of long sums with long numbers takes no long time.
func TestManyLongNumbers(t *testing.T) {
	s := source(3)
	p := s.polynomial(8, 2000, 5, 1)
	at := make([]api.Rat, 8)
	for i := range at {
		at[i] = fromBigRat(s.ratio(200))
	}
	if got := Sign(p, at); got == 0 || got != roughSign(p, at) {
		t.Errorf("the sign is %d, roughly %d", got, roughSign(p, at))
	}
}
