package rat_test

import (
	"math/big"
	"testing"

	"isochrone/api"
	"isochrone/rat"
)

func TestSimplest(t *testing.T) {
	for _, c := range []struct{ a, b, want string }{
		{"0", "0", "0"}, {"-1", "1", "0"}, {"0", "5", "0"}, {"-5", "0", "0"}, {"-1/7", "1/9", "0"}, {"1", "5", "1"}, {"3/2", "7", "2"}, {"-7", "-3/2", "-2"}, {"-5", "-2", "-2"}, {"2", "5/2", "2"}, {"3/2", "2", "2"},
		{"1/3", "1/2", "1/2"}, {"1/3", "2/5", "1/3"}, {"5/13", "2/5", "2/5"}, {"1/4", "2/7", "1/4"}, {"-1/2", "-1/3", "-1/2"}, {"-2/5", "-1/3", "-1/3"}, {"3/10", "4/10", "1/3"}, {"31/100", "32/100", "5/16"},
		{"314/100", "315/100", "22/7"}, {"3141592/1000000", "3141593/1000000", "355/113"}, {"-3141593/1000000", "-3141592/1000000", "-355/113"}, {"7/3", "7/3", "7/3"}, {"-7/3", "-7/3", "-7/3"}, {"5", "5", "5"},
		{"99/100", "101/100", "1"}, {"1/1000", "1/999", "1/999"}, {"1000/1001", "1001/1002", "1000/1001"}, {"999999/1000000", "1", "1"}, {"13/8", "21/13", ""}, {"21/13", "13/8", "13/8"}, {"8/5", "13/8", "8/5"},
		{"4294967297/4294967296", "4294967296/4294967295", "4294967296/4294967295"}, {"18446744073709551615/2", "18446744073709551616", "9223372036854775808"},
	} {
		got, e := rat.Simplest(number(c.a), number(c.b))
		what := "Simplest(" + c.a + ", " + c.b + ")"
		if c.want == "" {
			same(t, what, got, e, api.Rat{}, api.ErrRange)
			continue
		}
		same(t, what, got, e, number(c.want), api.OK)
	}
}

func TestSimplestRange(t *testing.T) {
	longest := over(power(maxBits, -1), power(maxBits, -2))
	next := over(power(maxBits, -2), power(maxBits, -3))
	for _, c := range [][2]api.Rat{
		{number("1"), number("0")}, {number("0"), number("-1")}, {number("1"), number("-1")}, {number("1/2"), number("1/3")}, {number("-1/3"), number("-1/2")}, {number("5"), number("4")},
		{next, longest}, {negative(longest), negative(next)},
	} {
		got, e := rat.Simplest(c[0], c[1])
		same(t, "Simplest of "+brief(c[0])+" and "+brief(c[1]), got, e, api.Rat{}, api.ErrRange)
	}
}

// simplestBySearch tries the denominators in turn.
func simplestBySearch(a, b *big.Rat) *big.Rat {
	if a.Sign() <= 0 && b.Sign() >= 0 {
		return new(big.Rat)
	}
	if b.Sign() < 0 {
		r := simplestBySearch(new(big.Rat).Neg(b), new(big.Rat).Neg(a))
		return r.Neg(r)
	}
	for den := int64(1); ; den++ {
		scaled := new(big.Rat).Mul(a, big.NewRat(den, 1))
		least := new(big.Int).Add(scaled.Num(), scaled.Denom())
		least.Sub(least, big.NewInt(1)).Div(least, scaled.Denom())
		if r := new(big.Rat).SetFrac(least, big.NewInt(den)); r.Cmp(b) <= 0 {
			return r
		}
	}
}

func TestSimplestBySearch(t *testing.T) {
	s := source(7)
	check := func(a, b *big.Rat) {
		if a.Cmp(b) > 0 {
			a, b = b, a
		}
		got, e := rat.Simplest(fromBigRat(a), fromBigRat(b))
		same(t, "Simplest of "+a.String()+" and "+b.String(), got, e, fromBigRat(simplestBySearch(a, b)), api.OK)
	}
	for range 3000 {
		a := s.small()
		check(a, s.small())
		width := big.NewRat(int64(s.upTo(50)), int64(1+s.upTo(2000)))
		check(a, width.Add(a, width))
		b := big.NewRat(int64(s.upTo(100000)), int64(1+s.upTo(100000)))
		check(b, new(big.Rat).Add(b, big.NewRat(1, int64(1+s.upTo(100000)))))
	}
}

// TestSimplestEnds has bounds that are themselves simplest: neighbours in Stern and Brocot's tree, of which the one with the lesser denominator is above the other.
func TestSimplestEnds(t *testing.T) {
	s := source(8)
	for range 300 {
		left, right := []*big.Int{new(big.Int), big.NewInt(1)}, []*big.Int{big.NewInt(1), new(big.Int)}
		for range 1 + s.upTo(150) {
			middle := []*big.Int{new(big.Int).Add(left[0], right[0]), new(big.Int).Add(left[1], right[1])}
			if s.upTo(2) == 0 {
				left = middle
			} else {
				right = middle
			}
		}
		if left[1].Cmp(right[1]) == 0 || right[1].Sign() == 0 || left[0].Sign() == 0 {
			continue
		}
		a, b := over(left[0], left[1]), over(right[0], right[1])
		want := a
		if right[1].Cmp(left[1]) < 0 {
			want = b
		}
		got, e := rat.Simplest(a, b)
		same(t, "Simplest of neighbours "+brief(a)+" and "+brief(b), got, e, want, api.OK)
		got, e = rat.Simplest(negative(b), negative(a))
		same(t, "Simplest of negative neighbours", got, e, negative(want), api.OK)
	}
}

func TestSimplestOfLongest(t *testing.T) {
	longest, top := power(maxBits, -1), power(maxBits-1, 0)
	ratio := over(longest, top)
	for _, c := range []struct {
		what    string
		a, b, q api.Rat
	}{
		{"a long number twice", ratio, ratio, ratio}, {"a long negative number twice", negative(ratio), negative(ratio), negative(ratio)},
		{"the longest integers", whole(power(maxBits, -2)), whole(longest), whole(power(maxBits, -2))}, {"half the longest and more", over(longest, big.NewInt(2)), whole(longest), whole(top)},
		{"zero and a long number", rat.From(0), ratio, rat.From(0)}, {"opposites", negative(ratio), ratio, rat.From(0)}, {"the lowest", over(big.NewInt(1), longest), over(big.NewInt(1), power(maxBits, -2)), over(big.NewInt(1), power(maxBits, -2))},
		{"long neighbours", over(power(maxBits, -3), power(maxBits, -2)), over(power(maxBits, -2), longest), over(power(maxBits, -3), power(maxBits, -2))},
		{"a long number and 2", ratio, number("2"), number("2")}, {"numbers just below 2", over(longest, power(maxBits-1, 1)), ratio, over(longest, power(maxBits-1, 1))},
	} {
		got, e := rat.Simplest(c.a, c.b)
		same(t, "Simplest of "+c.what, got, e, c.q, api.OK)
	}
}
