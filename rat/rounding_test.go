package rat_test

import (
	"math"
	"math/big"
	"testing"

	"isochrone/api"
	"isochrone/rat"
)

func TestFloor(t *testing.T) {
	for _, c := range [][2]string{
		{"0", "0"}, {"5", "5"}, {"-5", "-5"}, {"7/2", "3"}, {"-7/2", "-4"}, {"1/9", "0"}, {"-1/9", "-1"}, {"8/9", "0"}, {"-8/9", "-1"}, {"18446744073709551617/4294967296", "4294967296"},
		{"4294967295/2", "2147483647"}, {"-4294967295/2", "-2147483648"}, {"-8589934591/2", "-4294967296"},
	} {
		got, e := rat.Floor(number(c[0]))
		same(t, "Floor("+c[0]+")", got, e, number(c[1]), api.OK)
	}
	longest := whole(power(maxBits, -1))
	got, e := rat.Floor(negative(longest))
	same(t, "Floor of the longest", got, e, negative(longest), api.OK)
	got, e = rat.Floor(over(power(maxBits, -1), big.NewInt(-2)))
	same(t, "Floor of half the longest", got, e, negative(whole(power(maxBits-1, 0))), api.OK)
}

func TestDownAndUp(t *testing.T) {
	for _, c := range []struct {
		a        string
		k        int
		down, up string
	}{
		{"0", 0, "0", "0"}, {"0", 4000, "0", "0"}, {"5", 0, "5", "5"}, {"5", 4000, "5", "5"}, {"-5", 3, "-5", "-5"}, {"7/2", 0, "3", "4"}, {"-7/2", 0, "-4", "-3"}, {"7/2", 1, "7/2", "7/2"},
		{"1/3", 0, "0", "1"}, {"-1/3", 0, "-1", "0"}, {"1/3", 1, "0", "1/2"}, {"-1/3", 1, "-1/2", "0"}, {"1/3", 2, "1/4", "1/2"}, {"-1/3", 2, "-1/2", "-1/4"}, {"1/3", 3, "1/4", "3/8"},
		{"2/3", 32, "1431655765/2147483648", "2863311531/4294967296"}, {"-2/3", 32, "-2863311531/4294967296", "-1431655765/2147483648"}, {"5/8", 3, "5/8", "5/8"}, {"5/8", 2, "1/2", "3/4"}, {"-5/8", 2, "-3/4", "-1/2"},
		{"1/1000000", 10, "0", "1/1024"}, {"-1/1000000", 10, "-1/1024", "0"}, {"3/2", 0, "1", "2"},
	} {
		got, e := rat.Down(number(c.a), c.k)
		same(t, "Down("+c.a+")", got, e, number(c.down), api.OK)
		got, e = rat.Up(number(c.a), c.k)
		same(t, "Up("+c.a+")", got, e, number(c.up), api.OK)
	}
}

func TestRoundingRange(t *testing.T) {
	for _, k := range []int{-1, 4001, math.MinInt, math.MaxInt} {
		for _, a := range []api.Rat{number("0"), number("1/3"), whole(power(maxBits, -1))} {
			got, e := rat.Down(a, k)
			same(t, "Down", got, e, api.Rat{}, api.ErrRange)
			got, e = rat.Up(a, k)
			same(t, "Up", got, e, api.Rat{}, api.ErrRange)
		}
	}
}

// downBig returns the greatest multiple of 2^-k that is at most a.
func downBig(a *big.Rat, k int) *big.Rat {
	units := new(big.Int).Lsh(big.NewInt(1), uint(k))
	num := new(big.Int).Mul(a.Num(), units)
	// For a divisor above zero, Div rounds down.
	return new(big.Rat).SetFrac(num.Div(num, a.Denom()), units)
}

func upBig(a *big.Rat, k int) *big.Rat {
	r := downBig(new(big.Rat).Neg(a), k)
	return r.Neg(r)
}

func TestRoundingAgainstBig(t *testing.T) {
	s := source(6)
	check := func(a *big.Rat, k int) {
		x := fromBigRat(a)
		got, e := rat.Down(x, k)
		sameOrLong(t, "Down of "+brief(x), got, e, downBig(a, k))
		got, e = rat.Up(x, k)
		sameOrLong(t, "Up of "+brief(x), got, e, upBig(a, k))
		got, e = rat.Floor(x)
		sameOrLong(t, "Floor of "+brief(x), got, e, downBig(a, 0))
	}
	for range 2000 {
		check(s.small(), s.upTo(10))
		check(s.number(4), s.upTo(100))
		check(s.number(4), s.upTo(4000))
	}
	for range 4 {
		check(s.number(4096), s.upTo(4000))
	}
}

// TestRoundingLongest has numbers that are longer than the limit when they are multiplied by 2^4000.
func TestRoundingLongest(t *testing.T) {
	longest, top := power(maxBits, -1), power(maxBits-1, 0)
	for _, a := range []*big.Rat{
		new(big.Rat).SetInt(longest), new(big.Rat).SetFrac(longest, big.NewInt(2)), new(big.Rat).SetFrac(longest, big.NewInt(7)), new(big.Rat).SetFrac(longest, top), new(big.Rat).SetFrac(top, longest),
		new(big.Rat).SetFrac(power(maxBits, -2), longest), new(big.Rat).SetFrac(big.NewInt(1), longest), new(big.Rat).SetFrac(longest, power(maxBits, -2)), new(big.Rat).SetFrac(longest, power(65536, 0)),
		new(big.Rat).SetFrac(longest, power(4001, 0)), new(big.Rat).SetFrac(longest, power(3999, 0)), new(big.Rat).SetFrac(power(maxBits, -7), power(4000, -1)),
	} {
		for _, k := range []int{0, 1, 3999, 4000} {
			for range 2 {
				a.Neg(a)
				got, e := rat.Down(fromBigRat(a), k)
				sameOrLong(t, "Down of "+brief(fromBigRat(a)), got, e, downBig(a, k))
				got, e = rat.Up(fromBigRat(a), k)
				sameOrLong(t, "Up of "+brief(fromBigRat(a)), got, e, upBig(a, k))
			}
		}
	}
	got, e := rat.Down(whole(longest), 4000)
	same(t, "Down of the longest", got, e, whole(longest), api.OK)
	got, e = rat.Down(over(longest, big.NewInt(7)), 4000)
	same(t, "Down of a seventh", got, e, api.Rat{}, api.ErrLimit)
	got, e = rat.Up(over(longest, big.NewInt(7)), 4000)
	same(t, "Up of a seventh", got, e, api.Rat{}, api.ErrLimit)
}
