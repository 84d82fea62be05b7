package wide

import (
	"math/big"
	"testing"
)

// wholes calls check with integers of both signs and many lengths.
func wholes(check func(a, b *big.Int)) {
	s := source(6)
	pairs(func(a, b []uint64) {
		x, y := toBig(a), toBig(b)
		if s.upTo(1) == 1 {
			x.Neg(x)
		}
		if s.upTo(1) == 1 {
			y.Neg(y)
		}
		check(x, y)
	})
}

func fromInt(n *big.Int) Num {
	return fromBigRat(new(big.Rat).SetInt(n))
}

func sameInteger(t *testing.T, what string, got Num, want *big.Int) {
	t.Helper()
	same(t, what, got, new(big.Rat).SetInt(want))
}

func TestDivMod(t *testing.T) {
	wholes(func(x, y *big.Int) {
		y.Abs(y)
		if y.Sign() == 0 {
			return
		}
		q, r := fromInt(x).DivMod(fromInt(y))
		// For a positive divisor, Euclid's division of math/big is this one.
		wantQ, wantR := new(big.Int).DivMod(x, y, new(big.Int))
		sameInteger(t, "the quotient", q, wantQ)
		sameInteger(t, "the remainder", r, wantR)
	})
}

func TestGCDOfIntegers(t *testing.T) {
	s := source(7)
	for range 2000 {
		x, y, common := toBig(s.words(s.upTo(3))), toBig(s.words(s.upTo(3))), toBig(s.words(s.upTo(2)))
		x.Mul(x, common)
		y.Mul(y.Neg(y), common)
		sameInteger(t, "GCD", GCD(fromInt(x), fromInt(y)), new(big.Int).GCD(nil, nil, new(big.Int).Abs(x), new(big.Int).Abs(y)))
		sameInteger(t, "GCD with zero", GCD(fromInt(y), Num{}), new(big.Int).Abs(y))
		sameInteger(t, "GCD of zero", GCD(Num{}, fromInt(y)), new(big.Int).Abs(y))
	}
}

func TestShiftOfIntegers(t *testing.T) {
	wholes(func(x, _ *big.Int) {
		a := fromInt(x)
		for _, n := range []int{0, 1, 31, 63, 64, 65, 128, 1000} {
			sameInteger(t, "Shift", a.Shift(n), new(big.Int).Lsh(x, uint(n)))
			// The fraction is left out towards zero.
			sameInteger(t, "Shift down", a.Shift(-n), new(big.Int).Quo(x, new(big.Int).Lsh(big.NewInt(1), uint(n))))
			sameInteger(t, "Shift and back", a.Shift(n).Shift(-n), x)
		}
	})
}

func TestSizes(t *testing.T) {
	wholes(func(x, _ *big.Int) {
		a := fromInt(x)
		if a.Bits() != x.BitLen() || a.Words() != (x.BitLen()+63)/64 {
			t.Errorf("%s has %d bits and %d words", brief(a), a.Bits(), a.Words())
		}
		if a.Zeros() != int(x.TrailingZeroBits()) {
			t.Errorf("%s has %d zeros", brief(a), a.Zeros())
		}
		for _, n := range []int{1, 64, 300} {
			if !a.IsZero() && a.Shift(n).Zeros() != a.Zeros()+n {
				t.Errorf("%s has %d zeros", brief(a.Shift(n)), a.Shift(n).Zeros())
			}
		}
	})
}

func TestOrder(t *testing.T) {
	numbers(func(x, y *big.Rat) {
		a, b := fromBigRat(x), fromBigRat(y)
		if a.Sign() != x.Sign() {
			t.Errorf("Sign of %s is %d", brief(a), a.Sign())
		}
		same(t, "Abs of "+brief(a), a.Abs(), new(big.Rat).Abs(x))
		if a.Cmp(b) != x.Cmp(y) || b.Cmp(a) != y.Cmp(x) || a.Cmp(a) != 0 {
			t.Errorf("Cmp of %s and %s is %d", brief(a), brief(b), a.Cmp(b))
		}
		near := new(big.Rat).Add(x, big.NewRat(1, 1<<40))
		if a.Cmp(fromBigRat(near)) != -1 {
			t.Errorf("Cmp of %s and its neighbour is %d", brief(a), a.Cmp(fromBigRat(near)))
		}
	})
}

// TestLongProducts has factors of very different lengths, with zeros at the end and with words of ones.
func TestLongProducts(t *testing.T) {
	s := source(8)
	for _, n := range []int{79, 80, 81, 82, 159, 160, 161, 162, 163, 250, 700} {
		for _, m := range []int{1, 40, 79, 80, 81, 100, 159, 160, 320, 321, 1500} {
			for _, pair := range [][2][]uint64{{s.words(n), s.words(m)}, {ones(n), ones(m)}, {s.words(n), append(make([]uint64, 90), s.words(m)...)}, {append(make([]uint64, n), 1), append(make([]uint64, m), ones(3)...)}, {append(ones(1), append(make([]uint64, n), ones(1)...)...), append(s.words(1), append(make([]uint64, m), 5)...)}} {
				a, b := pair[0], pair[1]
				sameWords(t, "times", a, b, times(a, b), new(big.Int).Mul(toBig(a), toBig(b)))
				sameWords(t, "times, backwards,", b, a, times(b, a), new(big.Int).Mul(toBig(a), toBig(b)))
			}
		}
	}
}
