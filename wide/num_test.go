package wide

import (
	"math"
	"math/big"
	"slices"
	"testing"

	"isochrone/api"
	"isochrone/rat"
)

// numbers calls check with short and long numbers.
func numbers(check func(a, b *big.Rat)) {
	s := source(5)
	for range 3000 {
		check(s.small(), s.small())
		check(s.ratio(4), s.small())
		check(s.ratio(4), s.ratio(4))
	}
	check(s.ratio(2100), s.ratio(2100))
	check(s.ratio(3000), s.small())
	zero, one := new(big.Rat), big.NewRat(1, 1)
	check(zero, zero)
	check(zero, one)
	check(one, zero)
	check(one, big.NewRat(-1, 1))
}

func TestField(t *testing.T) {
	numbers(func(x, y *big.Rat) {
		a, b := fromBigRat(x), fromBigRat(y)
		what := " of " + brief(a) + " and " + brief(b)
		same(t, "Add"+what, a.Add(b), new(big.Rat).Add(x, y))
		same(t, "Add, backwards,"+what, b.Add(a), new(big.Rat).Add(x, y))
		same(t, "Add of Neg"+what, a.Add(b.Neg()), new(big.Rat).Sub(x, y))
		same(t, "Mul"+what, a.Mul(b), new(big.Rat).Mul(x, y))
		same(t, "Neg"+what, a.Neg(), new(big.Rat).Neg(x))
		if y.Sign() != 0 {
			same(t, "Quo"+what, a.Quo(b), new(big.Rat).Quo(x, y))
		}
		same(t, "a + b - b"+what, a.Add(b).Add(b.Neg()), x)
		same(t, "a - a"+what, a.Add(a.Neg()), new(big.Rat))
	})
}

func TestParts(t *testing.T) {
	numbers(func(x, _ *big.Rat) {
		a := fromBigRat(x)
		same(t, "Numerator of "+brief(a), a.Numerator(), new(big.Rat).SetInt(x.Num()))
		same(t, "Denominator of "+brief(a), a.Denominator(), new(big.Rat).SetInt(x.Denom()))
		if a.IsZero() != (x.Sign() == 0) {
			t.Errorf("IsZero of %s is %t", brief(a), a.IsZero())
		}
		for _, m := range []uint64{2, 3, 4294967296, 1<<61 - 1, 1<<64 - 1} {
			modulus := new(big.Int).SetUint64(m)
			num, den := a.Residues(m)
			wantNum, wantDen := new(big.Int).Mod(x.Num(), modulus), new(big.Int).Mod(x.Denom(), modulus)
			if num != wantNum.Uint64() || den != wantDen.Uint64() {
				t.Errorf("Residues of %s by %d are %d and %d", brief(a), m, num, den)
			}
		}
	})
}

func TestRats(t *testing.T) {
	numbers(func(x, _ *big.Rat) {
		a := fromBigRat(x)
		short := max((x.Num().BitLen()+31)/32, (x.Denom().BitLen()+31)/32)
		if x.Sign() == 0 {
			short = 0
		}
		for words := range short + 2 {
			if a.Fits(words) != (words >= short) {
				t.Errorf("Fits of %s and %d is %t", brief(a), words, a.Fits(words))
			}
		}
		if short > api.MaxWords {
			return
		}
		b := a.Rat()
		if !rat.Valid(b) || len(b.Num) > short || len(b.Den) > max(short, 1) {
			t.Errorf("Rat of %s is not valid", brief(a))
		}
		same(t, "Of of Rat", Of(b), x)
		want := slices.Clone(b.Num)
		clear(a.Rat().Num)
		if !slices.Equal(a.Rat().Num, want) {
			t.Errorf("Rat of %s shares memory", brief(a))
		}
		copied := Of(b)
		clear(b.Num)
		clear(b.Den)
		same(t, "Of after a change", copied, x)
	})
}

func TestInt(t *testing.T) {
	for _, n := range []int{0, 1, -1, 7, -40, 1 << 32, -1 << 32, math.MaxInt, math.MinInt} {
		same(t, "Int", Int(n), big.NewRat(int64(n), 1))
	}
}
