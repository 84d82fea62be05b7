package modular

import (
	"math/big"
	"slices"
	"testing"
)

// source makes numbers that look random and are the same in every run.
type source uint64

func (s *source) next() uint64 {
	*s ^= *s << 13
	*s ^= *s >> 7
	*s ^= *s << 17
	return uint64(*s)
}

// below returns a number from 0 to p-1; 0, 1 and p-1 are frequent.
func (s *source) below(p Prime) uint64 {
	return [...]uint64{0, 1, uint64(p) - 1, s.next() % uint64(p), s.next() % uint64(p)}[s.next()>>1%5]
}

// polynomial returns a polynomial of at most n coefficients.
func (s *source) polynomial(p Prime, n int) []uint64 {
	a := make([]uint64, n)
	for i := range a {
		a[i] = s.below(p)
	}
	return Trimmed(a)
}

func toBig(n uint64) *big.Int {
	return new(big.Int).SetUint64(n)
}

func primes() []Prime {
	return []Prime{101, 65537, First, First.Next(), 1<<62 - 57}
}

func TestField(t *testing.T) {
	s := source(1)
	for _, p := range primes() {
		modulus := toBig(uint64(p))
		check := func(what string, a, b, got uint64, want *big.Int) {
			t.Helper()
			if toBig(got).Cmp(want.Mod(want, modulus)) != 0 {
				t.Errorf("%s of %d and %d modulo %d is %d, not %v", what, a, b, p, got, want)
			}
		}
		for range 2000 {
			a, b := s.below(p), s.below(p)
			check("Plus", a, b, p.Plus(a, b), new(big.Int).Add(toBig(a), toBig(b)))
			check("Neg", a, b, p.Neg(a), new(big.Int).Neg(toBig(a)))
			check("Times", a, b, p.Times(a, b), new(big.Int).Mul(toBig(a), toBig(b)))
			check("Power", a, b, p.Power(a, b), new(big.Int).Exp(toBig(a), toBig(b), modulus))
			if a != 0 {
				check("Inverse", a, b, p.Inverse(a), new(big.Int).ModInverse(toBig(a), modulus))
			}
		}
	}
}

func TestNext(t *testing.T) {
	for _, start := range []Prime{541, 65537, First, 1<<62 - 57} {
		p := start
		for range 40 {
			next := p.Next()
			if !toBig(uint64(next)).ProbablyPrime(20) {
				t.Errorf("%d is not prime", next)
			}
			for n := next + 1; n < p; n++ {
				if toBig(uint64(n)).ProbablyPrime(0) {
					t.Errorf("Next of %d is %d, not %d", p, next, n)
				}
			}
			p = next
		}
	}
	// These composite numbers pass for some bases: the least ones that pass for the first one, two, and so on.
	for _, n := range []Prime{2047, 1373653, 25326001, 3215031751, 2152302898747, 3474749660383, 341550071728321, 3825123056546413051, 561, 1729} {
		if n.isPrime() {
			t.Errorf("%d is said to be prime", n)
		}
	}
}

func TestTrimmed(t *testing.T) {
	for _, c := range []struct{ a, want []uint64 }{{nil, nil}, {[]uint64{0, 0}, nil}, {[]uint64{0, 5, 0}, []uint64{0, 5}}, {[]uint64{1}, []uint64{1}}} {
		if got := Trimmed(c.a); !slices.Equal(got, c.want) {
			t.Errorf("Trimmed of %v is %v", c.a, got)
		}
	}
}

func (p Prime) product(a, b []uint64) []uint64 {
	product := make([]uint64, len(a)+len(b))
	for i, x := range a {
		for k, y := range b {
			product[i+k] = p.Plus(product[i+k], p.Times(x, y))
		}
	}
	return Trimmed(product)
}

func (p Prime) sum(a, b []uint64) []uint64 {
	sum := make([]uint64, max(len(a), len(b)))
	copy(sum, a)
	for i, x := range b {
		sum[i] = p.Plus(sum[i], x)
	}
	return Trimmed(sum)
}

func TestRemainder(t *testing.T) {
	s := source(2)
	for _, p := range primes() {
		for range 500 {
			b, q := s.polynomial(p, 6), s.polynomial(p, 8)
			if len(b) == 0 {
				continue
			}
			var r []uint64
			if len(b) > 1 {
				r = s.polynomial(p, len(b)-1)
			}
			a := p.sum(p.product(q, b), r)
			want := slices.Clone(a)
			if got := p.Remainder(a, b); !slices.Equal(got, r) {
				t.Errorf("the remainder modulo %d is %v, not %v", p, got, r)
			}
			if !slices.Equal(a, want) {
				t.Error("Remainder changes its argument")
			}
		}
	}
}

func TestGCD(t *testing.T) {
	s := source(3)
	for _, p := range primes() {
		for range 300 {
			a, b, common := s.polynomial(p, 4), s.polynomial(p, 5), s.polynomial(p, 4)
			if len(common) == 0 || len(a) == 0 && len(b) == 0 {
				continue
			}
			a, b = p.product(a, common), p.product(b, common)
			got := p.GCD(a, b)
			if got[len(got)-1] != 1 || len(p.Remainder(a, got)) > 0 || len(p.Remainder(b, got)) > 0 || len(p.Remainder(got, common)) > 0 {
				t.Errorf("GCD modulo %d of %v and %v is %v", p, a, b, got)
			}
		}
		if got := p.GCD([]uint64{6, 5, 1}, []uint64{3, 4, 1}); !slices.Equal(got, []uint64{3, 1}) {
			t.Errorf("GCD is %v", got)
		}
		if got := p.GCD(nil, []uint64{2, 4}); !slices.Equal(got, []uint64{p.Inverse(2), 1}) {
			t.Errorf("GCD of zero is %v", got)
		}
	}
}
