package rat_test

import (
	"math/big"
	"slices"
	"strconv"
	"testing"

	"isochrone/rat"
)

// lengths has the words of numbers at the places where the way of computing changes.
func lengths() []int {
	return []int{0, 1, 2, 2048, 2049, 4096, 4097, 6200}
}

// shapes returns numbers of n words: random words, the least one and the greatest one.
func shapes(s *source, n int) []*big.Int {
	if n == 0 {
		return []*big.Int{new(big.Int)}
	}
	return []*big.Int{s.words(n), power(uint(32*(n-1)), 0), power(uint(32*n), -1)}
}

// pairs calls check with numbers of all lengths and shapes.
func pairs(check func(a, b *big.Int)) {
	s := source(1)
	for _, n := range lengths() {
		for _, a := range shapes(&s, n) {
			for _, m := range lengths() {
				for _, b := range shapes(&s, m) {
					check(a, b)
				}
			}
		}
	}
}

// sameWords checks a natural number: its words must be those of the number, with no zeros before them.
func sameWords(t *testing.T, what string, a, b *big.Int, got []uint32, want *big.Int) {
	t.Helper()
	if !slices.Equal(got, fromBig(want)) {
		t.Errorf("%s of %d and %d words is wrong", what, len(fromBig(a)), len(fromBig(b)))
	}
}

func TestWideRing(t *testing.T) {
	pairs(func(a, b *big.Int) {
		x, y := fromBig(a), fromBig(b)
		if got := rat.Compare(x, y); got != a.Cmp(b) {
			t.Errorf("Compare of %d and %d words is %d", len(x), len(y), got)
		}
		sameWords(t, "Plus", a, b, rat.Plus(x, y), new(big.Int).Add(a, b))
		sameWords(t, "Times", a, b, rat.Times(x, y), new(big.Int).Mul(a, b))
		if a.Cmp(b) >= 0 {
			sameWords(t, "Minus", a, b, rat.Minus(x, y), new(big.Int).Sub(a, b))
		}
	})
}

func TestWideDivision(t *testing.T) {
	pairs(func(a, b *big.Int) {
		if b.Sign() == 0 || b.BitLen() > maxBits {
			return
		}
		q, r := rat.Divide(fromBig(a), fromBig(b))
		wantQ, wantR := new(big.Int).QuoRem(a, b, new(big.Int))
		sameWords(t, "the quotient", a, b, q, wantQ)
		sameWords(t, "the remainder", a, b, r, wantR)
	})
}

// TestWideDivisionNearMultiples has dividends next to multiples of the divisor, where a quotient is easily off by one.
func TestWideDivisionNearMultiples(t *testing.T) {
	s := source(2)
	for _, n := range []int{1, 3, 2047, 2048, 2049, 4095, 4096} {
		for _, b := range shapes(&s, n) {
			for _, m := range []int{1, 2050, 4100} {
				product := new(big.Int).Mul(b, s.words(m))
				for _, d := range []int64{-1, 0, 1} {
					a := new(big.Int).Add(product, big.NewInt(d))
					q, r := rat.Divide(fromBig(a), fromBig(b))
					wantQ, wantR := new(big.Int).QuoRem(a, b, new(big.Int))
					sameWords(t, "the quotient", a, b, q, wantQ)
					sameWords(t, "the remainder", a, b, r, wantR)
				}
			}
		}
	}
}

func TestMove(t *testing.T) {
	for _, c := range []struct {
		a    []uint32
		n    int
		want []uint32
	}{
		{nil, 0, nil}, {nil, 3, nil}, {nil, -3, nil}, {[]uint32{5, 6}, 0, []uint32{5, 6}}, {[]uint32{5, 6}, 2, []uint32{0, 0, 5, 6}},
		{[]uint32{5, 6}, -1, []uint32{6}}, {[]uint32{5, 6}, -2, nil}, {[]uint32{5, 6}, -3, nil},
	} {
		if got := rat.Move(c.a, c.n); !slices.Equal(got, c.want) {
			t.Errorf("Move by %s is %v", strconv.Itoa(c.n), got)
		}
	}
}
