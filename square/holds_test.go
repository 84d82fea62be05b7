package square_test

import (
	"math/big"
	"testing"

	"isochrone/api"
	"isochrone/square"
)

// holdsIs checks a result of Holds.
func holdsIs(t *testing.T, c api.Claim, at []api.Rat, want bool, wantErr api.Errno) {
	t.Helper()
	if got, e := square.Holds(c, at); got != want || e != wantErr {
		t.Errorf("that a claim about %s with Rel %d holds at %s is %t, %d, not %t, %d", brief(c.Poly), c.Rel, briefPoint(at), got, e, want, wantErr)
	}
}

func TestHolds(t *testing.T) {
	for _, c := range []struct {
		p, at string
		sign  int
	}{
		{"0", "", 0}, {"5", "", 1}, {"-1/3", "", -1}, {"0", "7 -1", 0}, {"1*x", "1/2", 1}, {"1*x", "0", 0}, {"1*x", "-3", -1}, {"1*x^2 + -2", "7/5", -1}, {"1*x^2 + -2", "3/2", 1}, {"1*x^2 + -9/4", "-3/2", 0}, {"1*x + -1*y", "1/3 1/3", 0}, {"1*x + -1*y", "1/3 1/2", -1}, {"1*x^2 + 1*y^2 + -1", "3/5 4/5", 0}, {"1*x^2 + 1*y^2 + -1", "3/5 41/50", 1},
		{"-1*x^40", "1/2", -1}, {"1*x^39 + 1", "-1", 0}, {"1*x*y*z*w + -1/24", "1/2 1/3 1/4 1", 0}, {"1*x*y*z*w + -1/24", "-1/2 -1/3 1/4 -1", -1}, {"1*x0 + 1*x7", "1 5 5 5 5 5 5 -1", 0}, {"1*x0 + 2*x7", "1 5 5 5 5 5 5 -1/3", 1},
	} {
		at := numbers(c.at)
		for rel, want := range []bool{c.sign == 0, c.sign >= 0, c.sign > 0} {
			holdsIs(t, api.Claim{Poly: read(len(at), c.p), Rel: rel}, at, want, api.OK)
		}
	}
}

func TestHoldsForm(t *testing.T) {
	points := [][]api.Rat{nil, numbers("1"), numbers("1 2"), {{}}}
	bad := func(c api.Claim) {
		t.Helper()
		for _, at := range points {
			holdsIs(t, c, at, false, api.ErrForm)
		}
	}
	for _, rel := range []int{-1000, -1, 3, 4, 1 << 40} {
		bad(api.Claim{Poly: read(1, "1*x"), Rel: rel})
	}
	for rel := range 3 {
		for _, p := range invalidPolys() {
			bad(api.Claim{Poly: p, Rel: rel})
		}
		for _, x := range longNumbers() {
			bad(api.Claim{Poly: monomial(x, 1).plus(parse("1")).poly(1), Rel: rel})
		}
		for _, x := range []*big.Rat{most(20), inverse(most(20))} {
			holdsIs(t, api.Claim{Poly: monomial(x, 1).poly(1), Rel: rel}, numbers("1"), rel > 0, api.OK)
			holdsIs(t, api.Claim{Poly: monomial(neg(x)).poly(1), Rel: rel}, numbers("1"), false, api.OK)
		}
	}
}

func TestHoldsRange(t *testing.T) {
	long := []api.Rat{fromBigRat(power(32 * 200)), fromBigRat(power(-32 * 200)), fromBigRat(neg(power(32 * 4095)))}
	for rel := range 3 {
		for n := range api.MaxVars + 1 {
			for _, p := range []string{"0", "1"} {
				c := api.Claim{Poly: read(n, p), Rel: rel}
				for count := range 12 {
					at := make([]api.Rat, count)
					for i := range at {
						at[i] = number("1/2")
					}
					if count != n {
						holdsIs(t, c, at, false, api.ErrRange)
						continue
					}
					for i := range at {
						for _, x := range append(long, invalidNumbers()...) {
							at[i] = x
							holdsIs(t, c, at, false, api.ErrRange)
						}
						at[i] = number("-3")
					}
				}
			}
		}
	}
	for _, x := range []*big.Rat{most(200), inverse(most(200)), neg(most(200))} {
		holdsIs(t, claim(1, "1*x > 0"), point([]*big.Rat{x}), x.Sign() > 0, api.OK)
		holdsIs(t, claim(2, "1*x^2 + -1*y^2 >= 0"), point([]*big.Rat{x, x}), true, api.OK)
	}
}

// TestHoldsLongValues has values of far more than MaxWords words, and values that are near to zero beside them.
func TestHoldsLongValues(t *testing.T) {
	s := source(4)
	x, y := s.signed(s.long(200)), s.long(199)
	near := times(y, plus(whole(1), new(big.Rat).SetFrac(big.NewInt(2), y.Num())))
	for _, c := range []struct {
		p    string
		at   []*big.Rat
		sign int
	}{
		{"1*x^40", []*big.Rat{x}, 1}, {"1*x^39", []*big.Rat{neg(y)}, -1}, {"1*x^40 + -1*y^40", []*big.Rat{x, x}, 0}, {"1*x^40 + -1*y^40", []*big.Rat{near, y}, 1}, {"1*x^40 + -1*y^40", []*big.Rat{y, near}, -1}, {"1*x^20*y^20 + -1*z^20*w^20", []*big.Rat{x, y, y, x}, 0}, {"1*x^20*y^20 + -1*z^20*w^20 + 1*w", []*big.Rat{x, y, neg(x), neg(y)}, -1}, {"1*x^20*y^20 + -1", []*big.Rat{x, inverse(x)}, 0}, {"1*x^20*y^20 + -1", []*big.Rat{inverse(y), near}, 1},
	} {
		for rel, want := range []bool{c.sign == 0, c.sign >= 0, c.sign > 0} {
			holdsIs(t, api.Claim{Poly: read(len(c.at), c.p), Rel: rel}, point(c.at), want, api.OK)
		}
	}
}

func TestHoldsAgainstTables(t *testing.T) {
	s := source(5)
	for round := range 500 {
		n := round % 9
		c := api.Claim{Poly: s.table(n, s.upTo(6/max(1, n/2)), 4, s.small).poly(n), Rel: s.upTo(2)}
		at := make([]*big.Rat, n)
		for i := range at {
			at[i] = s.small()
		}
		holdsIs(t, c, point(at), holds(c, at), api.OK)
	}
}
