package root_test

import (
	"math/big"
	"testing"

	"isochrone/api"
	"isochrone/root"
)

// isBetween checks that Between returns a number strictly between those of a and b.
func isBetween(t *testing.T, a, b api.Root) {
	t.Helper()
	got, e := root.Between(a, b)
	if e != api.OK {
		t.Errorf("Between of %s and %s is error %d", briefRoot(a), briefRoot(b), e)
		return
	}
	x := toBigRat(got)
	if !equalNumbers(got, fromBigRat(x)) {
		t.Errorf("%s is not valid", brief(got))
	}
	// x - number has the sign of the order of x to the number.
	below := coefs{x, whole(-1)}
	if sign(below, a) != 1 || sign(below, b) != -1 {
		t.Errorf("%s is not between %s and %s", brief(got), briefRoot(a), briefRoot(b))
	}
}

func TestBetween(t *testing.T) {
	two, three := rootOf("-2 0 1", "0", "3"), rootOf("-3 0 1", "0", "100")
	isBetween(t, two, three)
	isBetween(t, rootOf("-2 0 1", "-3", "0"), two)
	isBetween(t, two, rootOf("-3/2 1", "3/2", "3/2"))
	isBetween(t, rootOf("-7/5 1", "7/5", "7/5"), two)
	isBetween(t, rootOf("-7/5 1", "1", "2"), two)
	isBetween(t, rootOf("0 1", "0", "0"), rootOf("-1 1", "1", "1"))
	isBetween(t, rootOf("0 1", "-1", "1"), rootOf("-1 1", "0", "2"))
	isBetween(t, rootOf("1 1", "-1", "-1"), rootOf("0 1", "0", "0"))
	isBetween(t, rootOf("0 1", "0", "0"), rootOf("0 -1 1", "0", "5"))
	isBetween(t, rootOf("-1/3 1", "1/3", "1/3"), rootOf("-1/2 1", "1/2", "1/2"))
	isBetween(t, rootOf("-1/3 1", "0", "1"), rootOf("-333334/1000000 1", "0", "1"))
	for _, c := range []struct{ a, b api.Root }{
		{two, two}, {three, two}, {two, rootOf("-4 0 0 0 1", "0", "3")}, {rootOf("-1 1", "1", "1"), rootOf("-1 1", "0", "2")}, {rootOf("0 1", "0", "0"), rootOf("0 -1 1", "-1", "1/2")}, {two, rootOf("-2 0 1", "-3", "0")},
	} {
		got, e := root.Between(c.a, c.b)
		sameNumber(t, "Between of "+briefRoot(c.a)+" and "+briefRoot(c.b), got, e, api.Rat{}, api.ErrRange)
	}
}

func TestBetweenAtRandom(t *testing.T) {
	s := source(17)
	list := s.someRoots(t, 35)
	for _, a := range list {
		for _, b := range list {
			if compare(a, b) < 0 {
				isBetween(t, a, b)
				continue
			}
			got, e := root.Between(a, b)
			sameNumber(t, "Between of "+briefRoot(a)+" and "+briefRoot(b), got, e, api.Rat{}, api.ErrRange)
		}
	}
}

func TestBetweenClose(t *testing.T) {
	two := rootOf("-2 0 1", "1", "2")
	for digits := 10; digits < 3000; digits += 700 {
		isBetween(t, two, closeTo2(power(-digits), "0", "7"))
		isBetween(t, closeTo2(neg(power(-digits)), "-1", "7"), two)
	}
	third := rootOf("-1/3 1", "0", "1")
	next := plus(fraction("1/3"), power(-6000))
	isBetween(t, third, api.Root{Poly: coefs{neg(next), whole(1)}.list(), Lo: number("0"), Hi: number("1")})
	isBetween(t, third, must[api.Root](t)(root.Rational(fromBigRat(next))))
}

// TestBetweenLimit has numbers between which all rational numbers are long: 2^-k is close to a root of x^n + 2^k*x - 1.
func TestBetweenLimit(t *testing.T) {
	near := func(k, n int) (a, b api.Root) {
		p := monomial(whole(1), n).plus(coefs{whole(-1), power(k)})
		return api.Root{Poly: p.list(), Lo: number("0"), Hi: number("1")}, must[api.Root](t)(root.Rational(fromBigRat(power(-k))))
	}
	a, b := near(3199, 12)
	got, e := root.Between(a, b)
	if e != api.OK || len(got.Den) < 35000/32 || len(got.Den) > 39000/32 {
		t.Errorf("Between of close numbers is %s with error %d", brief(got), e)
	}
	// The value of x^12 + 2^k*x - 1 tells that the number is greater than the root.
	x := toBigRat(got)
	if p := fromList(a.Poly); p.eval(x).Sign() != 1 || x.Cmp(power(-3199)) >= 0 {
		t.Error("Between of close numbers is not between them")
	}
	a, b = near(6399, 21)
	got, e = root.Between(a, b)
	sameNumber(t, "Between of numbers that are too close", got, e, api.Rat{}, api.ErrLimit)
	got, e = root.Between(b, a)
	sameNumber(t, "Between of numbers in the wrong order", got, e, api.Rat{}, api.ErrRange)
}

// TestBetweenIsShort has numbers with a simple one between them, far from the middle.
func TestBetweenIsShort(t *testing.T) {
	tiny := power(-3000)
	for _, text := range []string{"0", "1", "-1", "1/3", "-22/7", "1000/1001"} {
		x := fraction(text)
		for _, c := range [][2]*big.Rat{{minus(x, tiny), plus(x, times(tiny, whole(1000)))}, {minus(x, times(tiny, whole(999))), plus(x, tiny)}} {
			a, b := must[api.Root](t)(root.Rational(fromBigRat(c[0]))), must[api.Root](t)(root.Rational(fromBigRat(c[1])))
			got, e := root.Between(a, b)
			sameNumber(t, "Between around "+text, got, e, fromBigRat(x), api.OK)
		}
	}
}
