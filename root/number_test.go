package root_test

import (
	"math/big"
	"testing"

	"isochrone/api"
	"isochrone/root"
)

// someRoots returns Roots, some of the same number with other polynomials or intervals.
func (s *source) someRoots(t *testing.T, count int) []api.Root {
	t.Helper()
	var list []api.Root
	for len(list) < count {
		p := s.product(s.upTo(2), s.upTo(3))
		if s.upTo(2) == 0 {
			p = p.times([]coefs{parse("-2 0 1"), parse("-1 -1 1"), parse("-2 0 0 1"), parse("-3 0 1"), parse("-1/2 1")}[s.upTo(4)])
		}
		if len(p) == 0 {
			continue
		}
		for _, r := range must[[]api.Root](t)(root.Isolate(p.list())) {
			for range s.upTo(4) {
				r = must[api.Root](t)(root.Halve(r))
			}
			list = append(list, r)
		}
		if s.upTo(3) == 0 {
			list = append(list, must[api.Root](t)(root.Rational(fromBigRat(s.fraction()))))
		}
	}
	return list
}

func TestHalve(t *testing.T) {
	for _, c := range []struct{ r, want api.Root }{
		{rootOf("-2 0 1", "1", "2"), rootOf("-2 0 1", "1", "3/2")}, {rootOf("-2 0 1", "0", "2"), rootOf("-2 0 1", "1", "2")}, {rootOf("-2 0 1", "-2", "0"), rootOf("-2 0 1", "-2", "-1")}, {rootOf("-2 0 1", "-2", "1"), rootOf("-2 0 1", "-2", "-1/2")},
		// The midpoint is the root.
		{rootOf("-1 1", "0", "2"), rootOf("-1 1", "1", "1")}, {rootOf("0 1", "-1", "1"), rootOf("0 1", "0", "0")}, {rootOf("0 -1 1", "0", "2"), rootOf("0 -1 1", "1", "1")},
		// A point stays.
		{rootOf("-1/3 1", "1/3", "1/3"), rootOf("-1/3 1", "1/3", "1/3")}, {rootOf("0 -1 1", "1", "1"), rootOf("0 -1 1", "1", "1")},
		// The lower end is a root, too.
		{rootOf("0 -1 1", "0", "4"), rootOf("0 -1 1", "0", "2")}, {rootOf("0 -1 1", "0", "3/2"), rootOf("0 -1 1", "3/4", "3/2")}, {rootOf("0 -2 0 1", "0", "2"), rootOf("0 -2 0 1", "1", "2")},
	} {
		got, e := root.Halve(c.r)
		sameRoot(t, "Halve of "+briefRoot(c.r), got, e, c.want, api.OK)
	}
	s := source(13)
	for _, r := range s.someRoots(t, 150) {
		got, e := root.Halve(r)
		sameRoot(t, "Halve of "+briefRoot(r), got, e, halve(r), api.OK)
	}
}

func TestHalveLimit(t *testing.T) {
	// The interval has a width of 1/2 and a bit.
	r := api.Root{Poly: read("-2 0 1"), Lo: number("1"), Hi: fromBigRat(plus(fraction("3/2"), power(1-maxBits)))}
	got, e := root.Halve(r)
	sameRoot(t, "Halve with a midpoint of 201 words", got, e, api.Root{}, api.ErrLimit)
	r.Hi = fromBigRat(plus(fraction("3/2"), power(2-maxBits)))
	got, e = root.Halve(r)
	sameRoot(t, "Halve with a midpoint of 200 words", got, e, halve(r), api.OK)
	point := api.Root{Poly: coefs{neg(power(1 - maxBits)), whole(1)}.list(), Lo: fromBigRat(power(1 - maxBits)), Hi: fromBigRat(power(1 - maxBits))}
	got, e = root.Halve(point)
	sameRoot(t, "Halve of a long point", got, e, point, api.OK)
}

func TestSign(t *testing.T) {
	two, minus := rootOf("-2 0 1", "0", "3"), rootOf("-2 0 1", "-3", "0")
	third, wide := rootOf("-1/3 1", "1/3", "1/3"), rootOf("-1/3 1", "-10", "100")
	for _, c := range []struct {
		c    string
		r    api.Root
		want int
	}{
		{"", two, 0}, {"", third, 0}, {"5", two, 1}, {"-5", minus, -1}, {"-1/9", third, -1}, {"0 1", two, 1}, {"0 1", minus, -1}, {"0 1", rootOf("0 1", "-1", "1"), 0}, {"0 1", rootOf("0 1", "0", "0"), 0},
		{"-2 0 1", two, 0}, {"-2 0 1", minus, 0}, {"-2 0 1", third, -1}, {"-7/5 1", two, 1}, {"-3/2 1", two, -1}, {"7/5 1", minus, -1}, {"-1 3", third, 0}, {"-1 3", wide, 0}, {"-333333333333/1000000000000 1", wide, 1}, {"-333333333334/1000000000000 1", wide, -1},
		// The convergents of the root of 2.
		{"-318281039/225058681 1", two, 1}, {"-768398401/543339720 1", two, -1}, {"318281039/225058681 1", minus, -1},
		// Common factors whose roots are elsewhere, or here and multiple.
		{"4 -4 0 2 -1", two, sign(parse("4 -4 0 2 -1"), two)}, {"0 -2 0 1", two, 0}, {"4 0 -4 0 1", two, 0}, {"4 0 -4 0 1", minus, 0}, {"-4 2 2 -1", rootOf("0 -2 0 1", "-1/2", "1"), -1}, {"2 0 -1", two, 0}, {"-2 1 1", rootOf("2 -3 1", "3/2", "5/2"), 1}, {"-2 1 1", rootOf("2 -3 1", "1/2", "3/2"), 0},
		{"1 0 1", two, 1}, {"-1 0 -1", minus, -1}, {"0 0 0 1", minus, -1},
		// A root of the list is the lower end.
		{"0 1", rootOf("0 -1 1", "0", "2"), 1}, {"0 -1", rootOf("0 -2 0 1", "0", "2"), -1},
	} {
		got, e := root.Sign(read(c.c), c.r)
		sameInt(t, "Sign of "+c.c+" at "+briefRoot(c.r), got, e, c.want, api.OK)
	}
}

func TestSignAtRandom(t *testing.T) {
	s := source(14)
	for _, r := range s.someRoots(t, 250) {
		for range 2 {
			c := s.product(s.upTo(2), s.upTo(3))
			switch s.upTo(5) {
			case 0:
				c = c.times(fromList(r.Poly))
			case 1:
				c = c.times(parse("-2 0 1"))
			case 2:
				c = fromList(r.Poly).plus(coefs{power(-1 - s.upTo(200))})
			case 3:
				c = coefs{neg(middle(toBigRat(r.Lo), toBigRat(r.Hi))), whole(1)}
			}
			got, e := root.Sign(c.list(), r)
			sameInt(t, "Sign of "+briefList(c.list())+" at "+briefRoot(r), got, e, sign(c, r), api.OK)
		}
	}
}

// TestSignClose has lists with a root extremely close to the number.
func TestSignClose(t *testing.T) {
	for _, r := range []api.Root{rootOf("-2 0 1", "1", "2"), rootOf("-2 0 1", "0", "100"), {Poly: read("-2 0 1"), Lo: number("0"), Hi: fromBigRat(power(6000))}} {
		for digits := 10; digits < maxBits; digits += 1597 {
			for want := -1; want <= 1; want += 2 {
				// At the root of 2, the value is the last summand.
				c := parse("-2 0 1").plus(coefs{times(power(-digits), whole(want))})
				got, e := root.Sign(c.list(), r)
				sameInt(t, "Sign of a list that is almost zero at "+briefRoot(r), got, e, want, api.OK)
			}
		}
	}
	s := source(15)
	p := append(s.integers(11, 3000), whole(1))
	list := must[[]api.Root](t)(root.Isolate(p.list()))
	if len(list) == 0 {
		t.Fatal("no root")
	}
	for _, r := range list {
		got, e := root.Sign(p.plus(parse("1/3")).list(), r)
		sameInt(t, "Sign of long numbers", got, e, 1, api.OK)
		got, e = root.Sign(p.list(), r)
		sameInt(t, "Sign of the polynomial", got, e, 0, api.OK)
		got, e = root.Sign(p.times(parse("-1 1 0 7")).list(), r)
		sameInt(t, "Sign of a multiple", got, e, 0, api.OK)
	}
}

func TestCmp(t *testing.T) {
	two := rootOf("-2 0 1", "0", "3")
	for _, c := range []struct {
		a, b api.Root
		want int
	}{
		{two, two, 0}, {two, rootOf("-2 0 1", "7/5", "3/2"), 0}, {two, rootOf("-2 0 1", "-3", "0"), 1}, {two, rootOf("-3 0 1", "0", "3"), -1},
		// One number with other polynomials.
		{two, rootOf("-4 0 0 0 1", "0", "3"), 0}, {two, rootOf("0 -2 0 1", "1", "3"), 0}, {rootOf("-4 0 0 0 1", "0", "3"), rootOf("0 -2 0 1", "1", "3"), 0},
		{rootOf("6 0 -5 0 1", "1", "3/2"), two, 0}, {rootOf("6 0 -5 0 1", "3/2", "2"), two, 1}, {rootOf("6 0 -5 0 1", "3/2", "2"), rootOf("-3 0 1", "-1", "4"), 0},
		// Rational numbers in all forms.
		{rootOf("-1/2 1", "1/2", "1/2"), rootOf("-1/2 1", "0", "1"), 0}, {rootOf("-1/2 1", "0", "1"), rootOf("1/2 -3/2 1", "1/2", "1/2"), 0}, {rootOf("-1/2 1", "0", "1"), rootOf("1/2 -3/2 1", "0", "3/4"), 0}, {rootOf("-1/2 1", "1/2", "1/2"), rootOf("-1/2 1", "1/2", "1/2"), 0}, {rootOf("-1/2 1", "1/2", "1/2"), rootOf("-1/3 1", "1/3", "1/3"), 1}, {rootOf("0 1", "0", "0"), rootOf("0 1", "-1", "1"), 0},
		// A point is an end of the other interval, or inside of it.
		{rootOf("0 1", "0", "0"), rootOf("0 -1 1", "0", "3"), -1}, {rootOf("0 -1 1", "0", "3"), rootOf("0 1", "0", "0"), 1}, {rootOf("-3 1", "3", "3"), rootOf("0 -1 1", "0", "3"), 1}, {rootOf("-7/5 1", "7/5", "7/5"), two, -1}, {rootOf("-3/2 1", "3/2", "3/2"), two, 1}, {rootOf("-1 1", "1", "1"), rootOf("0 -1 1", "1/2", "3"), 0},
		// Intervals that touch.
		{rootOf("-2 0 1", "1", "3/2"), rootOf("-3 0 1", "3/2", "2"), -1}, {rootOf("-3 0 1", "3/2", "2"), rootOf("-2 0 1", "1", "3/2"), 1},
		// Neighbours that are roots of both polynomials.
		{rootOf("2 -3 1", "1/2", "3/2"), rootOf("2 -3 1", "5/4", "5/2"), -1}, {rootOf("2 -3 1", "1/2", "7/4"), rootOf("0 2 -3 1", "7/4", "4"), -1}, {rootOf("2 -3 1", "1/2", "7/4"), rootOf("0 2 -3 1", "3/4", "3/2"), 0},
	} {
		got, e := root.Cmp(c.a, c.b)
		sameInt(t, "Cmp of "+briefRoot(c.a)+" and "+briefRoot(c.b), got, e, c.want, api.OK)
		got, e = root.Cmp(c.b, c.a)
		sameInt(t, "Cmp of "+briefRoot(c.b)+" and "+briefRoot(c.a), got, e, -c.want, api.OK)
	}
}

func TestCmpAtRandom(t *testing.T) {
	s := source(16)
	list := s.someRoots(t, 45)
	for _, a := range list {
		for _, b := range list {
			got, e := root.Cmp(a, b)
			sameInt(t, "Cmp of "+briefRoot(a)+" and "+briefRoot(b), got, e, compare(a, b), api.OK)
		}
	}
}

// closeTo2 returns the positive root of x^2 - 2 - distance.
func closeTo2(distance *big.Rat, lo, hi string) api.Root {
	return api.Root{Poly: coefs{neg(plus(whole(2), distance)), whole(0), whole(1)}.list(), Lo: number(lo), Hi: number(hi)}
}

func TestCmpClose(t *testing.T) {
	two := rootOf("-2 0 1", "1", "2")
	for digits := 10; digits < maxBits; digits += 1277 {
		got, e := root.Cmp(two, closeTo2(power(-digits), "0", "7"))
		sameInt(t, "Cmp of close numbers", got, e, -1, api.OK)
		got, e = root.Cmp(two, closeTo2(neg(power(-digits)), "0", "7"))
		sameInt(t, "Cmp of close numbers", got, e, 1, api.OK)
	}
}

// TestCmpOfNeighbours has a polynomial with two roots that are extremely close, and polynomials that have one of them each.
func TestCmpOfNeighbours(t *testing.T) {
	two := rootOf("-2 0 1", "1", "2")
	for digits := 10; digits < 2500; digits += 400 {
		next := closeTo2(power(-digits), "1", "2")
		product := fromList(two.Poly).times(fromList(next.Poly))
		list := must[[]api.Root](t)(root.Isolate(product.list()))
		for i, want := range [][2]int{{-1, -1}, {-1, -1}, {0, -1}, {1, 0}} {
			got, e := root.Cmp(list[i], two)
			sameInt(t, "Cmp of a root of the product and the root of 2", got, e, want[0], api.OK)
			got, e = root.Cmp(next, list[i])
			sameInt(t, "Cmp of the next root and a root of the product", got, e, -want[1], api.OK)
		}
	}
}

func TestRational(t *testing.T) {
	for _, x := range append(longest(), number("0"), number("5"), number("-2/3")) {
		got, e := root.Rational(x)
		sameRoot(t, "Rational of "+brief(x), got, e, api.Root{Poly: coefs{neg(toBigRat(x)), whole(1)}.list(), Lo: x, Hi: x}, api.OK)
	}
	for name, x := range invalidNumbers() {
		got, e := root.Rational(x)
		sameRoot(t, "Rational of "+name, got, e, api.Root{}, api.ErrForm)
	}
}
