package square_test

import (
	"math/big"
	"slices"
	"strconv"
	"testing"

	"isochrone/api"
	"isochrone/poly"
	"isochrone/square"
)

// quadratic calls Quadratic for a polynomial within the budget, checks what it returns, and reports whether that is squares.
func quadratic(t *testing.T, p api.Poly) bool {
	t.Helper()
	list, at, e := square.Quadratic(p)
	if e != api.OK {
		t.Errorf("Quadratic of %s has error %d", brief(p), e)
		return false
	}
	if at == nil {
		if !sum(list).equals(tableOf(p)) || len(list) > 20 {
			t.Errorf("the squares of %s are %s", brief(p), briefSquares(list))
		}
		for _, s := range list {
			if product, e := poly.Mul(s.Poly, s.Poly); e != api.OK || product.N != p.N || s.Weight.Neg {
				t.Errorf("%s has the square %s of %s", brief(p), briefNumber(s.Weight), brief(s.Poly))
			}
		}
		return true
	}
	if list != nil || len(at) != p.N || tableOf(p).eval(unpoint(at)).Sign() >= 0 {
		t.Errorf("Quadratic of %s is %s, %s", brief(p), briefSquares(list), briefPoint(at))
		return false
	}
	// The point is short enough for Holds.
	if ok, e := square.Holds(api.Claim{Poly: negated(p), Rel: greater}, at); !ok || e != api.OK {
		t.Errorf("that %s is negative at %s is %t, %d", brief(p), briefPoint(at), ok, e)
	}
	return false
}

func negated(p api.Poly) api.Poly {
	return tableOf(p).scaled(whole(-1)).poly(p.N)
}

func TestQuadratic(t *testing.T) {
	for _, c := range []struct {
		n    int
		p    string
		want bool
	}{
		{0, "3", true}, {0, "1/7", true}, {0, "-1", false}, {0, "-1/9", false}, {4, "5", true}, {4, "-5", false}, {1, "1*x", false}, {1, "-1*x", false}, {3, "1*z", false}, {1, "1*x + 1000000", false}, {1, "-1/1000000*x + 1000000", false},
		{1, "1*x^2", true}, {1, "-1*x^2", false}, {1, "-1*x^2 + 100", false}, {1, "-1*x^2 + 100*x + -2501", false}, {1, "-1*x^2 + 100*x + -2499", false}, {1, "1*x^2 + 2*x + 1", true}, {1, "1*x^2 + 2*x + 2", true}, {1, "1*x^2 + 2*x", false}, {1, "1*x^2 + -2*x + 999/1000", false}, {1, "1*x^2 + -1/1000", false}, {1, "1*x^2 + 1*x", false},
		// Squares that touch zero: at a point, along a line.
		{2, "1*x^2 + -2*x*y + 1*y^2", true}, {2, "1*x^2 + 2*x*y + 1*y^2", true}, {2, "1*x^2 + 2*x*y + 1*y^2 + -2*x + -2*y + 1", true}, {2, "1*x^2 + -2*x + 1*y^2 + 4*y + 5", true}, {2, "1*x^2 + -2*x + 1*y^2 + 4*y + 499/100", false}, {3, "1*x^2 + 1*y^2 + 1*z^2 + -1*x*y + -1*y*z + -1*x*z", true}, {3, "1*x^2 + 1*y^2 + 1*z^2 + -1*x*y + -1*y*z + -1*x*z + -1/1000", false}, {3, "1*x^2 + 1*y^2 + 1*z^2 + 2*x*y + 2*y*z + 2*x*z", true}, {4, "1*x^2 + 1*y^2 + 1*z^2 + 1*w^2 + 2*x*y + 2*z*w", true}, {4, "1*w^2", true}, {4, "1*x^2 + 1*w^2 + -2*x*w", true},
		// Negative in a mixed direction only.
		{2, "1*x*y", false}, {2, "-1*x*y", false}, {2, "1*x^2 + 3*x*y + 1*y^2", false}, {2, "1*x^2 + -3*x*y + 1*y^2", false}, {2, "1*x^2 + 2*x*y + 1*y^2 + 1*x + -1*y", false}, {3, "1*x^2 + 1*y*z", false}, {3, "1*x^2 + 1*y^2 + 1*z^2 + 3*y*z", false}, {3, "1*x^2 + 1*y^2 + 1*z^2 + -1*x*y + -1*y*z + -101/100*x*z", false}, {3, "1*x*y + 1*y*z + 1*x*z + 1000", false}, {4, "1*x^2 + 1*y^2 + 1*z*w + 10000", false}, {4, "1*x^2 + 1*y^2 + 1*z^2 + 1*w^2 + 2*x*y + 5*z*w", false}, {2, "1*y^2 + 1*x*y", false}, {2, "1*y^2 + 1*x*y + 1*x", false},
		// Negative far away only: where a slope, or a square with a small weight, makes up for the constant.
		{1, "1*x^2 + -1000000*x + 249999999999", false}, {1, "1*x^2 + -1000000*x + 250000000000", true}, {1, "1/1000000*x + 1000000", false}, {2, "1*x^2 + 1/1000000*y + 1000000", false}, {2, "1*x^2 + -2*x*y + 1*y^2 + 1/1000*x + -1/1001*y + 1000", false}, {2, "1*x^2 + 2*x*y + 999999/1000000*y^2 + 1000000", false}, {2, "1*x^2 + 2*x*y + 1000001/1000000*y^2 + 1000000", true}, {1, "-1/4294967296*x^2 + 4294967296", false}, {4, "1*x^2 + 1*y^2 + 1*z^2 + 1000000 + 1/1000000*w", false},
		// A variable that does not occur, in front of others and between them.
		{3, "1*y^2 + 2*y + 1", true}, {3, "1*x^2 + 1*z^2 + -2*x*z", true}, {3, "1*x^2 + 1*z^2 + -2*x*z + -1", false}, {3, "1*z^2 + 2*z", false}, {2, "1*y", false},
	} {
		if got := quadratic(t, read(c.n, c.p)); got != c.want {
			t.Errorf("Quadratic of %s: it is %t that there are squares", c.p, got)
		}
	}
}

func TestQuadraticOfZero(t *testing.T) {
	for n := range 5 {
		if list, at, e := square.Quadratic(api.Poly{N: n}); len(list) != 0 || at != nil || e != api.OK {
			t.Errorf("Quadratic of 0 in %d variables is %s, %s, %d", n, briefSquares(list), briefPoint(at), e)
		}
	}
	for _, text := range []string{"-1", "-1/3"} {
		if list, at, e := square.Quadratic(read(0, text)); list != nil || at == nil || len(at) != 0 || e != api.OK {
			t.Errorf("Quadratic of %s without variables is %s, %s, %d", text, briefSquares(list), briefPoint(at), e)
		}
	}
	if list, at, e := square.Quadratic(read(0, "2/3")); len(list) == 0 || at != nil || e != api.OK {
		t.Errorf("Quadratic of 2/3 without variables is %s, %s, %d", briefSquares(list), briefPoint(at), e)
	}
}

func TestQuadraticErrors(t *testing.T) {
	fails := func(what string, p api.Poly, want api.Errno) {
		t.Helper()
		if list, at, e := square.Quadratic(p); len(list)+len(at) > 0 || e != want {
			t.Errorf("Quadratic of %s is %s, %s, %d, not %d", what, briefSquares(list), briefPoint(at), e, want)
		}
	}
	for what, p := range invalidPolys() {
		fails(what, p, api.ErrForm)
	}
	for n := range api.MaxVars + 1 {
		for _, text := range []string{"0", "1", "-1"} {
			if n > 4 {
				fails(strconv.Itoa(n)+" variables", read(n, text), api.ErrBudget)
			} else {
				quadratic(t, read(n, text))
			}
		}
	}
	for _, text := range []string{"1*x^3", "1*x^2*y", "1*x*y*z", "1*x^2 + 1*y^3", "-1*w^40", "1*x^2 + 1*y^2 + -1*x*y*z"} {
		fails(text, read(4, text), api.ErrBudget)
	}
	for _, words := range []int{3, 4, 20, 21, 200} {
		for _, x := range []*big.Rat{most(words), inverse(most(words)), neg(power(32*words - 32)), power(32 - 32*words)} {
			for _, p := range []table{monomial(x), monomial(x, 2).plus(parse("1")), parse("1*x^2").plus(monomial(x, 0, 1))} {
				fails(strconv.Itoa(words)+" words", p.poly(2), api.ErrBudget)
			}
		}
	}
	long := monomial(power(32*200), 1)
	for _, p := range []table{long, long.plus(parse("1*x^3")), long.plus(parse("1*x7"))} {
		fails("201 words", p.poly(8), api.ErrForm)
	}
	for _, x := range []*big.Rat{most(2), inverse(most(2)), new(big.Rat).SetFrac(most(2).Num(), minus(most(2), whole(1)).Num())} {
		for _, p := range []table{monomial(x, 2).plus(parse("1")), monomial(neg(x), 0, 2).plus(parse("1*x^2")), monomial(x, 1, 1).plus(parse("1*x^2 + 1*y^2")), monomial(x).plus(parse("1*x*y")), monomial(neg(x)).plus(parse("1*x^2"))} {
			quadratic(t, p.poly(2))
		}
	}
}

// TestQuadraticAgainstSquares: a sum of squares has no point, and one less a bit more than its least value has one.
func TestQuadraticAgainstSquares(t *testing.T) {
	s := source(8)
	for round := range 400 {
		n := round % 5
		p := table{}
		at := make([]*big.Rat, n)
		for i := range at {
			at[i] = s.fraction()
		}
		// All squares are zero at one point.
		for range s.upTo(5) {
			q := s.table(n, 1, 7, s.small)
			q.add(key{}, neg(q.eval(at)))
			p = p.plus(q.times(q).scaled(whole(1 + s.upTo(4))))
		}
		if !quadratic(t, p.poly(n)) {
			t.Errorf("Quadratic of the sum of squares %s has a point", brief(p.poly(n)))
		}
		if quadratic(t, p.plus(monomial(big.NewRat(-1, int64(1+s.upTo(1000000))))).poly(n)) {
			t.Errorf("Quadratic of less than %s has squares", brief(p.poly(n)))
		}
		if !quadratic(t, p.plus(monomial(big.NewRat(1, 3))).poly(n)) {
			t.Errorf("Quadratic of more than %s has a point", brief(p.poly(n)))
		}
	}
}

// TestQuadraticAgainstPoints: there are no squares if the polynomial is negative at some point of a grid.
func TestQuadraticAgainstPoints(t *testing.T) {
	s := source(9)
	squares, points := 0, 0
	for round := range 600 {
		n := 1 + round%4
		p := s.table(n, 2, 3+s.upTo(6), s.small)
		for i := range n {
			var k key
			k[i] = 2
			p.add(k, whole(s.upTo(4)))
		}
		p.add(key{}, whole(s.upTo(6)))
		found := quadratic(t, p.poly(n))
		if found {
			squares++
		} else {
			points++
		}
		at := slices.Repeat([]*big.Rat{whole(-2)}, n)
		for i := 0; i < n; {
			if found && p.eval(at).Sign() < 0 {
				t.Fatalf("%s has squares, though it is negative", brief(p.poly(n)))
			}
			for i = 0; i < n; i++ {
				if at[i] = plus(at[i], whole(1)); at[i].Cmp(whole(2)) <= 0 {
					break
				}
				at[i] = whole(-2)
			}
		}
	}
	if squares < 50 || points < 50 {
		t.Errorf("%d polynomials have squares, %d have points", squares, points)
	}
}

// TestQuadraticLongNumbers has coefficients with two words in all parts, so that squares and points are as long as they may be.
func TestQuadraticLongNumbers(t *testing.T) {
	s := source(10)
	squares, points := 0, 0
	for round := range 120 {
		n := 4 - round%3
		p := table{}
		for m := range dense(n, 2) {
			c := s.signed(s.long(2))
			if slices.Contains(m[:], 2) || m == (key{}) && round%2 == 0 {
				// On the diagonal: mostly large, so that the form is nearly always positive there.
				c = new(big.Rat).SetFrac(s.odd(2), s.odd(1+round/20%2))
			}
			p.add(m, c)
		}
		if round%7 == 0 {
			// Touch the border: no square of the last variable.
			var last key
			last[n-1] = 2
			delete(p, last)
		}
		found := quadratic(t, p.poly(n))
		if found {
			squares++
		} else {
			points++
		}
		if got := implied(t, nil, api.Claim{Poly: p.poly(n), Rel: atLeast}); got != found {
			t.Errorf("it is %t that there is a certificate for %s", got, brief(p.poly(n)))
		}
	}
	if squares < 20 || points < 20 {
		t.Errorf("%d polynomials have squares, %d have points", squares, points)
	}
}
