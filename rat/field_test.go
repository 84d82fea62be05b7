package rat_test

import (
	"math"
	"math/big"
	"testing"

	"isochrone/api"
	"isochrone/rat"
)

func TestField(t *testing.T) {
	for _, c := range []struct{ a, b, sum, difference, product, mid string }{
		{"0", "0", "0", "0", "0", "0"}, {"0", "3/4", "3/4", "-3/4", "0", "3/8"}, {"-3/4", "0", "-3/4", "-3/4", "0", "-3/8"},
		{"1/2", "1/3", "5/6", "1/6", "1/6", "5/12"}, {"1/2", "-1/2", "0", "1", "-1/4", "0"}, {"1/6", "1/3", "1/2", "-1/6", "1/18", "1/4"}, {"-1/6", "1/10", "-1/15", "-4/15", "-1/60", "-1/30"},
		{"5/12", "7/12", "1", "-1/6", "35/144", "1/2"}, {"2/3", "3/2", "13/6", "-5/6", "1", "13/12"}, {"-2", "-3", "-5", "1", "6", "-5/2"}, {"2", "4", "6", "-2", "8", "3"},
		{"1/15", "1/10", "1/6", "-1/30", "1/150", "1/12"}, {"7", "-1/7", "48/7", "50/7", "-1", "24/7"}, {"4294967295", "1", "4294967296", "4294967294", "4294967295", "2147483648"},
		{"1/4294967296", "-1/4294967296", "0", "1/2147483648", "-1/18446744073709551616", "0"},
	} {
		a, b := number(c.a), number(c.b)
		what := "of " + c.a + " and " + c.b
		got, e := rat.Add(a, b)
		same(t, "Add "+what, got, e, number(c.sum), api.OK)
		got, e = rat.Sub(a, b)
		same(t, "Sub "+what, got, e, number(c.difference), api.OK)
		got, e = rat.Mul(a, b)
		same(t, "Mul "+what, got, e, number(c.product), api.OK)
		got, e = rat.Mid(a, b)
		same(t, "Mid "+what, got, e, number(c.mid), api.OK)
	}
}

func TestDiv(t *testing.T) {
	for _, c := range []struct {
		a, b, want string
		e          api.Errno
	}{
		{"1", "2", "1/2", api.OK}, {"3/4", "9/8", "2/3", api.OK}, {"-3/4", "9/8", "-2/3", api.OK}, {"3/4", "-9/8", "-2/3", api.OK}, {"-3/4", "-9/8", "2/3", api.OK},
		{"0", "5", "0", api.OK}, {"0", "-5/7", "0", api.OK}, {"5", "5", "1", api.OK}, {"1", "-1/7", "-7", api.OK}, {"18446744073709551616", "4294967296", "4294967296", api.OK},
		{"1", "0", "", api.ErrZero}, {"0", "0", "", api.ErrZero}, {"-5/3", "0", "", api.ErrZero},
	} {
		want := api.Rat{}
		if c.e == api.OK {
			want = number(c.want)
		}
		got, e := rat.Div(number(c.a), number(c.b))
		same(t, "Div("+c.a+", "+c.b+")", got, e, want, c.e)
	}
}

func TestNeg(t *testing.T) {
	for _, c := range [][2]string{{"0", "0"}, {"5", "-5"}, {"-5", "5"}, {"3/7", "-3/7"}, {"-3/7", "3/7"}} {
		got, e := rat.Neg(number(c[0]))
		same(t, "Neg("+c[0]+")", got, e, number(c[1]), api.OK)
	}
	longest := over(power(maxBits, -1), power(maxBits-1, 0))
	got, e := rat.Neg(longest)
	same(t, "Neg of the longest number", got, e, negative(longest), api.OK)
}

func TestFieldAgainstBig(t *testing.T) {
	s := source(5)
	check := func(a, b *big.Rat) {
		x, y := fromBigRat(a), fromBigRat(b)
		what := "of " + brief(x) + " and " + brief(y)
		got, e := rat.Add(x, y)
		sameOrLong(t, "Add "+what, got, e, new(big.Rat).Add(a, b))
		got, e = rat.Sub(x, y)
		sameOrLong(t, "Sub "+what, got, e, new(big.Rat).Sub(a, b))
		got, e = rat.Mul(x, y)
		sameOrLong(t, "Mul "+what, got, e, new(big.Rat).Mul(a, b))
		got, e = rat.Mid(x, y)
		middle := new(big.Rat).Add(a, b)
		sameOrLong(t, "Mid "+what, got, e, middle.Mul(middle, big.NewRat(1, 2)))
		if b.Sign() != 0 {
			got, e = rat.Div(x, y)
			sameOrLong(t, "Div "+what, got, e, new(big.Rat).Quo(a, b))
		}
	}
	for range 3000 {
		check(s.small(), s.small())
		check(s.number(4), s.small())
		check(s.number(4), s.number(4))
	}
	check(s.number(4096), s.number(4096))
	check(s.number(2048), s.number(2048))
	check(s.number(4096), s.small())
}

// TestSumsOnTheWay has results within the limit, though numbers on the way are far above it.
func TestSumsOnTheWay(t *testing.T) {
	longest := power(maxBits, -1)
	one := big.NewInt(1)
	// With these denominators a sum has 6000 words over 6000, until the common factor of 2000 leaves.
	common := power(64000, -1)
	p, q := new(big.Int).Mul(common, power(64000, 1)), new(big.Int).Mul(common, power(64000, -3))
	// The cross products of these have 6096 words, and their difference is 1 but for the sign.
	x, y := power(63999, 0), power(63999, -1)
	m := power(67000, 0)
	numX, numY := new(big.Int).Mul(x, m), new(big.Int).Mul(y, m)
	numX, numY = numX.Add(numX, one), numY.Add(numY, one)
	for _, c := range []struct {
		what string
		a, b api.Rat
	}{
		{"halves of the longest", over(longest, big.NewInt(2)), over(one, big.NewInt(2))},
		{"the longest less 1", whole(longest), whole(big.NewInt(-1))},
		{"the longest and its opposite", whole(longest), negative(whole(longest))},
		{"parts of 1", over(power(maxBits-1, 0), longest), over(power(maxBits-1, -1), longest)},
		{"a common factor", over(one, p), over(one, q)},
		{"another common factor", over(new(big.Int).Add(p, one), p), over(new(big.Int).Add(q, one), q)},
		{"close neighbours", over(numX, x), negative(over(numY, y))},
	} {
		want := new(big.Rat).Add(toBigRat(c.a), toBigRat(c.b))
		got, e := rat.Add(c.a, c.b)
		sameOrLong(t, "Add of "+c.what, got, e, want)
		got, e = rat.Sub(c.a, negative(c.b))
		sameOrLong(t, "Sub of "+c.what, got, e, want)
		got, e = rat.Add(negative(c.b), negative(c.a))
		sameOrLong(t, "Add of the opposites of "+c.what, got, e, want.Neg(want))
		if e != api.OK {
			t.Errorf("%s is no example: the sum is too long", c.what)
		}
	}
}

func TestSumsBeyondTheLimit(t *testing.T) {
	longest := whole(power(maxBits, -1))
	top := whole(power(maxBits-1, 0))
	for _, c := range []struct {
		what string
		a, b api.Rat
	}{
		{"longest and 1", longest, number("1")}, {"half and half", top, top}, {"longest and a fraction", longest, number("1/3")}, {"longest less a fraction", longest, number("-1/3")},
		{"denominators without a common factor", over(big.NewInt(1), power(maxBits-1, 0)), over(big.NewInt(1), power(maxBits-1, -1))},
		{"denominators of 64 words", over(big.NewInt(1), power(maxBits-1, 0)), number("1/3")},
	} {
		got, e := rat.Add(c.a, c.b)
		same(t, "Add of "+c.what, got, e, api.Rat{}, api.ErrLimit)
		got, e = rat.Add(negative(c.a), negative(c.b))
		same(t, "Add of the opposites of "+c.what, got, e, api.Rat{}, api.ErrLimit)
		got, e = rat.Sub(c.b, negative(c.a))
		same(t, "Sub of "+c.what, got, e, api.Rat{}, api.ErrLimit)
	}
}

func TestLongProducts(t *testing.T) {
	longest, top := power(maxBits, -1), power(maxBits-1, 0)
	number := over(longest, top)
	inverse := over(top, longest)
	for _, c := range []struct {
		what string
		a, b api.Rat
		want api.Rat
		e    api.Errno
	}{
		{"a number and its inverse", number, inverse, rat.From(1), api.OK}, {"a number and its inverse with a sign", negative(number), inverse, rat.From(-1), api.OK},
		{"factors that cross out", over(longest, big.NewInt(7)), over(big.NewInt(7), top), number, api.OK},
		{"powers of 2", whole(power(65536, 0)), whole(power(65535, 0)), whole(top), api.OK}, {"greater powers of 2", whole(power(65536, 0)), whole(power(65536, 0)), api.Rat{}, api.ErrLimit},
		{"small powers of 2", over(big.NewInt(1), power(65536, 0)), over(big.NewInt(-1), power(65535, 0)), over(big.NewInt(-1), top), api.OK},
		{"smaller powers of 2", over(big.NewInt(1), power(65536, 0)), over(big.NewInt(-1), power(65536, 0)), api.Rat{}, api.ErrLimit},
		{"a square", number, number, api.Rat{}, api.ErrLimit}, {"the longest twice", whole(longest), rat.From(2), api.Rat{}, api.ErrLimit}, {"the longest and zero", number, rat.From(0), rat.From(0), api.OK},
	} {
		got, e := rat.Mul(c.a, c.b)
		same(t, "Mul of "+c.what, got, e, c.want, c.e)
		got, e = rat.Mul(c.b, c.a)
		same(t, "Mul backwards of "+c.what, got, e, c.want, c.e)
		if len(c.b.Num) > 0 {
			got, e = rat.Div(c.a, fromBigRat(new(big.Rat).Inv(toBigRat(c.b))))
			same(t, "Div of "+c.what, got, e, c.want, c.e)
		}
	}
	got, e := rat.Div(number, number)
	same(t, "Div of a number by itself", got, e, rat.From(1), api.OK)
	got, e = rat.Div(number, rat.From(0))
	same(t, "Div of a long number by zero", got, e, api.Rat{}, api.ErrZero)
}

func TestPow(t *testing.T) {
	for _, c := range []struct {
		a    string
		n    int
		want string
	}{
		{"0", 0, "1"}, {"0", 1, "0"}, {"0", 1000, "0"}, {"5", 0, "1"}, {"-5/3", 0, "1"}, {"2/3", 1, "2/3"}, {"2/3", 3, "8/27"}, {"-2/3", 3, "-8/27"}, {"-2/3", 4, "16/81"},
		{"2/3", -1, "3/2"}, {"2/3", -3, "27/8"}, {"-2/3", -3, "-27/8"}, {"-2/3", -4, "81/16"}, {"1", 1000, "1"}, {"-1", 1000, "1"}, {"-1", 999, "-1"}, {"-1", -999, "-1"}, {"-1", -1000, "1"}, {"-7", -1, "-1/7"},
	} {
		got, e := rat.Pow(number(c.a), c.n)
		same(t, "Pow of "+c.a, got, e, number(c.want), api.OK)
	}
	for _, n := range []int{1000, -1000} {
		long := whole(power(1000, 0))
		if n < 0 {
			long = over(big.NewInt(1), power(1000, 0))
		}
		got, e := rat.Pow(rat.From(2), n)
		same(t, "Pow of 2", got, e, long, api.OK)
	}
}

func TestPowErrors(t *testing.T) {
	longest := over(power(maxBits, -1), power(maxBits-1, 0))
	for _, c := range []struct {
		a api.Rat
		n int
		e api.Errno
	}{
		{number("0"), 1001, api.ErrRange}, {number("0"), -1001, api.ErrRange}, {number("1"), 1001, api.ErrRange}, {number("1"), -1001, api.ErrRange}, {number("1"), math.MaxInt, api.ErrRange}, {number("0"), math.MinInt, api.ErrRange},
		{longest, 1001, api.ErrRange}, {number("0"), -1, api.ErrZero}, {number("0"), -1000, api.ErrZero}, {longest, 2, api.ErrLimit}, {longest, -2, api.ErrLimit}, {longest, 1000, api.ErrLimit},
		{whole(power(132, 0)), 1000, api.ErrLimit}, {over(big.NewInt(1), power(132, 0)), 1000, api.ErrLimit}, {whole(power(132, 0)), -1000, api.ErrLimit}, {over(big.NewInt(3), power(132, 0)), -1000, api.ErrLimit},
	} {
		got, e := rat.Pow(c.a, c.n)
		same(t, "Pow of "+brief(c.a), got, e, api.Rat{}, c.e)
	}
	for _, n := range []int{1, -1} {
		want := toBigRat(longest)
		if n < 0 {
			want.Inv(want)
		}
		got, e := rat.Pow(longest, n)
		same(t, "Pow of the longest", got, e, fromBigRat(want), api.OK)
	}
	got, e := rat.Pow(whole(power(131, 0)), 1000)
	same(t, "Pow within the limit", got, e, whole(power(131000, 0)), api.OK)
}

func TestMidOfLongest(t *testing.T) {
	longest, top := power(maxBits, -1), power(maxBits-1, 0)
	fraction := over(big.NewInt(1), longest)
	for _, c := range []struct {
		what    string
		a, b    api.Rat
		want    api.Rat
		problem api.Errno
	}{
		{"the longest twice", whole(longest), whole(longest), whole(longest), api.OK}, {"two of the longest", whole(longest), whole(power(maxBits, -3)), whole(power(maxBits, -2)), api.OK},
		{"the longest and its opposite", whole(longest), negative(whole(longest)), rat.From(0), api.OK}, {"the lowest twice", fraction, fraction, fraction, api.OK},
		{"the lowest and zero", fraction, rat.From(0), api.Rat{}, api.ErrLimit}, {"the lowest and its opposite", fraction, negative(fraction), rat.From(0), api.OK},
		{"the longest and the next", whole(longest), whole(power(maxBits, -2)), api.Rat{}, api.ErrLimit}, {"fractions of top", over(big.NewInt(3), top), over(big.NewInt(1), top), over(big.NewInt(1), power(maxBits-2, 0)), api.OK},
		{"other fractions of top", over(big.NewInt(3), top), over(big.NewInt(-1), top), over(big.NewInt(1), top), api.OK}, {"a fraction of top and zero", over(big.NewInt(3), top), rat.From(0), api.Rat{}, api.ErrLimit},
		{"a fraction of a fourth and zero", over(big.NewInt(3), power(maxBits-2, 0)), rat.From(0), over(big.NewInt(3), top), api.OK},
	} {
		got, e := rat.Mid(c.a, c.b)
		same(t, "Mid of "+c.what, got, e, c.want, c.problem)
		got, e = rat.Mid(c.b, c.a)
		same(t, "Mid backwards of "+c.what, got, e, c.want, c.problem)
	}
}
