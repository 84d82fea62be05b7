package square_test

import (
	"math/big"
	"slices"
	"strconv"
	"testing"

	"isochrone/api"
	"isochrone/square"
)

// proof is a certificate that proves a goal, with what it is for.
type proof struct {
	what string
	hyps []api.Claim
	goal api.Claim
	cert api.Cert
}

// proofs returns certificates of each kind.
func proofs() []proof {
	line := claims(2, "1*x + -1 >= 0", "1*y > 0", "1*x + -1*y = 0")
	xPositive := []api.Cert{bySquares(2, "1 1"), {}, by(2, "0")}
	apart := claims(1, "1*x + -1 >= 0", "-1*x >= 0")
	strict := claims(1, "1*x > 0", "-1*x >= 0")
	equations := claims(2, "1*x + -1 = 0", "1*y + -2 = 0", "1*x >= 0")
	return []proof{
		{"no hypotheses", nil, claim(2, "1*x^2 + 1*y^2 >= 0"), kind1("0", squares(2, "1 1*x", "1 1*y"))},
		{"c alone", nil, claim(0, "3 >= 0"), kind1("3", nil)},
		{"nothing for zero", nil, claim(3, "0 >= 0"), kind1("0", nil)},
		{"nothing for an equation", nil, claim(3, "0 = 0"), kind1("0", nil)},
		{"c for Rel 2", nil, claim(1, "1*x^2 + 1/9 > 0"), kind1("1/9", squares(1, "1 1*x"))},
		{"weights", nil, claim(1, "2*x^2 + 4*x + 2 >= 0"), kind1("0", squares(1, "2 1*x + 1"))},
		{"a weight 0", nil, claim(1, "1*x^2 >= 0"), kind1("0", squares(1, "0 1*x + 7", "1 1*x"))},
		{"a hypothesis with Rel 1", line, claim(2, "1*x + 4 >= 0"), kind1("5", nil, xPositive...)},
		{"a hypothesis with Rel 1 and c for Rel 2", line, claim(2, "1*x + 4 > 0"), kind1("5", nil, xPositive...)},
		{"a hypothesis with Rel 2 for Rel 1", line, claim(2, "1/2*y >= 0"), kind1("0", nil, api.Cert{}, bySquares(2, "1/2 1"), by(2, "0"))},
		{"a hypothesis with Rel 2 for Rel 2", line, claim(2, "1/2*y > 0"), kind1("0", nil, api.Cert{}, bySquares(2, "1/2 1"), by(2, "0"))},
		{"a constant that is not 1", line, claim(2, "9*y > 0"), kind1("0", nil, api.Cert{}, bySquares(2, "1 -3"), by(2, "0"))},
		{"a constant square among others", line, claim(2, "1*x^2*y + 9*y > 0"), kind1("0", nil, api.Cert{}, bySquares(2, "1 1*x", "1 -3"), by(2, "0"))},
		{"an equation", line, claim(2, "1*x^2 + -1*x*y >= 0"), kind1("0", nil, api.Cert{}, api.Cert{}, by(2, "1*x"))},
		{"an equation for Rel 0", line, claim(2, "1*x^2 + -1*x*y = 0"), kind1("0", nil, api.Cert{}, api.Cert{}, by(2, "1*x"))},
		{"two equations for Rel 0", equations, claim(2, "1*x*y + -2 = 0"), kind1("0", nil, by(2, "1*y"), by(2, "1"), api.Cert{})},
		{"an equation and more for Rel 2", line, claim(2, "1*x^3 + -1*x*y + 1*y > 0"), kind1("0", nil, bySquares(2, "1 1*x"), bySquares(2, "1 1"), by(2, "1*x"))},
		{"all parts", line, claim(2, "1*x^2*y + 3*x^2 + -2*x*y + 3*y^2 + 9*x + 6*y + -11/2 > 0"), kind1("1/2", squares(2, "1 1*x", "3 1*y + 1"), bySquares(2, "9 1"), bySquares(2, "1 1*x"), by(2, "2*x"))},
		{"two sides", apart[:1], claim(1, "0 = 0"), api.Cert{Kind: 2, Kids: []api.Cert{kind1("0", nil, api.Cert{}), kind1("0", squares(1, "0 1*x"), api.Cert{})}}},
		{"two sides of a number", claims(1, "1*x + -1 >= 0", "-1*x + 1 >= 0"), claim(1, "1*x + -1 = 0"), api.Cert{Kind: 2, Kids: []api.Cert{kind1("0", nil, bySquares(1, "1 1"), api.Cert{}), kind1("0", nil, api.Cert{}, bySquares(1, "1 1"))}}},
		{"two sides for Rel 1", claims(1, "1*x + -1 > 0", "-1*x + 1 >= 0"), claim(1, "2*x + -2 >= 0"), api.Cert{Kind: 2, Kids: []api.Cert{kind1("0", nil, bySquares(1, "2 1"), api.Cert{}), kind1("0", nil, api.Cert{}, bySquares(1, "2 1"))}}},
		{"-1 for Rel 0", apart, claim(1, "1*x^7 + 1*x = 0"), api.Cert{Kind: 3, Kids: []api.Cert{kind1("0", nil, bySquares(1, "1 1"), bySquares(1, "1 1"))}}},
		{"-1 for Rel 1", apart, claim(1, "-5 >= 0"), api.Cert{Kind: 3, Kids: []api.Cert{kind1("0", nil, bySquares(1, "1 1"), bySquares(1, "1 1"))}}},
		{"-1 for Rel 2", apart, claim(1, "0 > 0"), api.Cert{Kind: 3, Kids: []api.Cert{kind1("1", nil, bySquares(1, "2 1"), bySquares(1, "2 1"))}}},
		{"0 for Rel 0", strict, claim(1, "1*x + -1 = 0"), api.Cert{Kind: 3, Kids: []api.Cert{kind1("0", nil, bySquares(1, "1 1"), bySquares(1, "1 1"))}}},
		{"0 for Rel 2", strict, claim(1, "1*x + -1 > 0"), api.Cert{Kind: 3, Kids: []api.Cert{kind1("0", nil, bySquares(1, "1 1"), bySquares(1, "1 1"))}}},
		{"0 by c", apart, claim(1, "-1*x^2 > 0"), api.Cert{Kind: 3, Kids: []api.Cert{kind1("1", nil, bySquares(1, "1 1"), bySquares(1, "1 1"))}}},
	}
}

func TestProves(t *testing.T) {
	for _, p := range proofs() {
		proves(t, p.what, p.hyps, p.goal, p.cert, true)
		if !certifies(p.hyps, tableOf(p.goal.Poly), p.goal.Rel, p.cert) {
			t.Errorf("the certificate with %s does not add up", p.what)
		}
		// A claim with Rel 0 or 2 says more than one with Rel 1.
		proves(t, p.what+" for Rel 1", p.hyps, api.Claim{Poly: p.goal.Poly, Rel: atLeast}, p.cert, true)
	}
}

// TestProvesNothing has certificates that would prove the goal with a small change.
func TestProvesNothing(t *testing.T) {
	line := claims(2, "1*x + -1 >= 0", "1*y > 0", "1*x + -1*y = 0")
	zero := by(2, "0")
	apart := claims(1, "1*x + -1 >= 0", "-1*x >= 0")
	strict := claims(1, "1*x > 0", "-1*x >= 0")
	one := bySquares(1, "1 1")
	both := claims(1, "1*x + -1 >= 0", "-1*x + 1 >= 0")
	first, second := kind1("0", nil, one, api.Cert{}), kind1("0", nil, api.Cert{}, one)
	for _, p := range []proof{
		{"another sum", nil, claim(2, "1*x^2 + 1*y^2 >= 0"), kind1("0", squares(2, "1 1*x", "2 1*y"))},
		{"a sum that is too great", nil, claim(1, "1*x^2 >= 0"), kind1("1", squares(1, "1 1*x"))},
		{"a sum that is too small", nil, claim(1, "1*x^2 + 1 >= 0"), kind1("0", squares(1, "1 1*x"))},
		{"a term too few", nil, claim(1, "1*x^2 + 2*x + 1 >= 0"), kind1("1", squares(1, "1 1*x"))},
		{"the opposite", nil, claim(1, "-1*x^2 >= 0"), kind1("0", squares(1, "1 1*x"))},
		{"c = 0 for Rel 2", nil, claim(1, "1*x^2 + 1 > 0"), kind1("0", squares(1, "1 1*x", "1 1"))},
		{"a negative c", nil, claim(1, "1*x^2 + -1 >= 0"), kind1("-1", squares(1, "1 1*x"))},
		{"a negative c that is made up for", nil, claim(1, "1*x^2 >= 0"), kind1("-1", squares(1, "1 1*x", "1 1"))},
		{"a negative weight", nil, claim(1, "-1*x^2 >= 0"), kind1("0", squares(1, "-1 1*x"))},
		{"a negative weight that is made up for", nil, claim(1, "1*x^2 >= 0"), kind1("0", squares(1, "2 1*x", "-1 1*x"))},
		{"squares for Rel 0", nil, claim(1, "0 = 0"), kind1("0", squares(1, "0 1*x"))},
		{"the square of zero for Rel 0", nil, claim(1, "0 = 0"), kind1("0", squares(1, "1 0"))},
		{"c for Rel 0", nil, claim(1, "1 = 0"), kind1("1", nil)},
		{"an inequality for Rel 0", line, claim(2, "1*x + -1 = 0"), kind1("0", nil, bySquares(2, "1 1"), api.Cert{}, zero)},
		{"an inequality with the weight 0 for Rel 0", line, claim(2, "1*x + -1*y = 0"), kind1("0", nil, bySquares(2, "0 1"), api.Cert{}, by(2, "1"))},
		{"a strict inequality with the weight 0 for Rel 0", line, claim(2, "1*x + -1*y = 0"), kind1("0", nil, api.Cert{}, bySquares(2, "0 1*y"), by(2, "1"))},
		{"no strict hypothesis for Rel 2", line, claim(2, "1*x + -1 > 0"), kind1("0", nil, bySquares(2, "1 1"), api.Cert{}, zero)},
		{"a square that is no constant for Rel 2", line, claim(2, "1*x^2*y > 0"), kind1("0", nil, api.Cert{}, bySquares(2, "1 1*x"), zero)},
		{"a sum with a constant for Rel 2", line, claim(2, "1*x^2*y + 2*x*y + 1*y > 0"), kind1("0", nil, api.Cert{}, bySquares(2, "1 1*x + 1"), zero)},
		{"a constant square with the weight 0 for Rel 2", line, claim(2, "1*x^2*y > 0"), kind1("0", nil, api.Cert{}, bySquares(2, "1 1*x", "0 1"), zero)},
		{"the square of zero for Rel 2", line, claim(2, "1*x^2*y > 0"), kind1("0", nil, api.Cert{}, bySquares(2, "1 1*x", "1 0"), zero)},
		{"a constant square of the goal for Rel 2", line, claim(2, "1*y + 4 > 0"), kind1("0", squares(2, "1 2"), bySquares(2, "0 1"), bySquares(2, "1 1*x", "0 1"), zero)},
		{"an equation with a polynomial for Rel 2", line, claim(2, "1*x + -1*y > 0"), kind1("0", nil, api.Cert{}, api.Cert{}, by(2, "1"))},
		{"a polynomial for Rel 1", line, claim(2, "1*x + -1 >= 0"), kind1("0", nil, by(2, "1"), api.Cert{}, zero)},
		{"a polynomial 0 for Rel 1", line, claim(2, "2*y >= 0"), kind1("0", nil, zero, bySquares(2, "2 1"), zero)},
		{"a polynomial and squares for Rel 1", line, claim(2, "1*x + -1 >= 0"), kind1("0", nil, api.Cert{Polys: zero.Polys, Squares: squares(2, "1 1")}, api.Cert{}, zero)},
		{"squares for an equation", line, claim(2, "1*x + -1*y >= 0"), kind1("0", nil, api.Cert{}, api.Cert{}, bySquares(2, "1 1"))},
		{"nothing for an equation", line, claim(2, "2*y >= 0"), kind1("0", nil, api.Cert{}, bySquares(2, "2 1"), api.Cert{})},
		{"a polynomial and squares for an equation", line, claim(2, "1*x + -1*y >= 0"), kind1("0", nil, api.Cert{}, api.Cert{}, api.Cert{Polys: by(2, "1").Polys, Squares: squares(2, "0 0")})},
		{"two polynomials for an equation", line, claim(2, "1*x + -1*y >= 0"), kind1("0", nil, api.Cert{}, api.Cert{}, api.Cert{Polys: []api.Poly{read(2, "1"), read(2, "0")}})},
		{"other hypotheses", line, claim(2, "1*y > 0"), kind1("0", nil, bySquares(2, "1 1"), api.Cert{}, zero)},
		{"kind 0", nil, claim(1, "0 = 0"), api.Cert{Nums: numbers("0")}},
		{"nothing at all", nil, claim(1, "0 = 0"), api.Cert{}},
		{"kind 0 of a hypothesis", claims(1, "1*x >= 0"), claim(1, "1*x >= 0"), one},
		{"kind 4", nil, claim(1, "0 = 0"), api.Cert{Kind: 4, Nums: numbers("0")}}, {"kind -1", nil, claim(1, "0 = 0"), api.Cert{Kind: -1, Nums: numbers("0")}}, {"kind 11", nil, claim(1, "0 = 0"), api.Cert{Kind: 11, Polys: []api.Poly{{N: 1}}, Kids: []api.Cert{kind1("0", nil)}}},
		{"two sides for Rel 2", nil, claim(1, "1 > 0"), api.Cert{Kind: 2, Kids: []api.Cert{kind1("1", nil), kind1("1", nil)}}},
		{"two sides of contradictions for Rel 2", both, claim(1, "1*x + -1 > 0"), api.Cert{Kind: 2, Kids: []api.Cert{first, second}}},
		{"two sides in the wrong order", both, claim(1, "1*x + -1 = 0"), api.Cert{Kind: 2, Kids: []api.Cert{second, first}}},
		{"one side twice", both, claim(1, "1*x + -1 = 0"), api.Cert{Kind: 2, Kids: []api.Cert{first, first}}}, {"the other side twice", both, claim(1, "1*x + -1 = 0"), api.Cert{Kind: 2, Kids: []api.Cert{second, second}}},
		{"one side alone for Rel 1", both, claim(1, "1*x + -1 >= 0"), api.Cert{Kind: 2, Kids: []api.Cert{first, first}}},
		{"two sides within two sides", both, claim(1, "0 = 0"), api.Cert{Kind: 2, Kids: []api.Cert{{Kind: 2, Kids: []api.Cert{kind1("0", nil, api.Cert{}, api.Cert{}), kind1("0", nil, api.Cert{}, api.Cert{})}}, kind1("0", nil, api.Cert{}, api.Cert{})}}},
		{"a contradiction as a side", apart, claim(1, "1*x = 0"), api.Cert{Kind: 2, Kids: []api.Cert{{Kind: 3, Kids: []api.Cert{kind1("0", nil, one, one)}}, kind1("0", nil, api.Cert{}, one)}}},
		{"no contradiction", apart, claim(1, "1*x = 0"), api.Cert{Kind: 3, Kids: []api.Cert{kind1("0", nil, one, api.Cert{})}}},
		{"-2 in the place of -1", apart, claim(1, "1*x = 0"), api.Cert{Kind: 3, Kids: []api.Cert{kind1("0", nil, bySquares(1, "2 1"), bySquares(1, "2 1"))}}},
		{"the goal in the place of -1", apart, claim(1, "1*x + -1 >= 0"), api.Cert{Kind: 3, Kids: []api.Cert{kind1("0", nil, one, api.Cert{})}}},
		{"0 that is not strict", claims(1, "1*x >= 0", "-1*x >= 0"), claim(1, "1*x + -1 > 0"), api.Cert{Kind: 3, Kids: []api.Cert{kind1("0", nil, one, one)}}},
		{"0 with a square that is no constant", strict, claim(1, "1*x + -1 > 0"), api.Cert{Kind: 3, Kids: []api.Cert{kind1("0", nil, bySquares(1, "1 1*x"), bySquares(1, "1 1*x"))}}},
		{"0 by nothing", strict, claim(1, "1*x + -1 > 0"), api.Cert{Kind: 3, Kids: []api.Cert{kind1("0", nil, api.Cert{}, api.Cert{})}}},
		{"a contradiction in a contradiction", apart, claim(1, "1*x = 0"), api.Cert{Kind: 3, Kids: []api.Cert{{Kind: 3, Kids: []api.Cert{kind1("0", nil, one, one)}}}}},
	} {
		proves(t, p.what, p.hyps, p.goal, p.cert, false)
	}
}

// spoiled returns certificates that differ from one by a field that its kind does not use, by a kid, or by a kind.
func spoiled(cert api.Cert) map[string]api.Cert {
	with := func(change func(c *api.Cert)) api.Cert {
		c := cloneCert(cert)
		change(&c)
		return c
	}
	list := map[string]api.Cert{
		"a kid too many": with(func(c *api.Cert) { c.Kids = append(c.Kids, api.Cert{}) }), "a combination too many": with(func(c *api.Cert) { c.Kids = append(c.Kids, kind1("0", nil)) }), "a number too many": with(func(c *api.Cert) { c.Nums = append(c.Nums, number("0")) }), "a polynomial too many": with(func(c *api.Cert) { c.Polys = append(c.Polys, api.Poly{}) }),
	}
	if len(cert.Nums) > 0 {
		list["no number"] = with(func(c *api.Cert) { c.Nums = nil })
		for i, x := range invalidNumbers() {
			list["the invalid number "+strconv.Itoa(i)] = with(func(c *api.Cert) { c.Nums[0] = x })
		}
	}
	if cert.Kind > 1 {
		list["a square too many"] = with(func(c *api.Cert) { c.Squares = append(c.Squares, api.Square{Weight: number("0")}) })
	}
	if len(cert.Kids) > 0 {
		list["a kid too few"] = with(func(c *api.Cert) { c.Kids = c.Kids[1:] })
		list["no last kid"] = with(func(c *api.Cert) { c.Kids = c.Kids[:len(c.Kids)-1] })
	}
	for kind := -1; kind <= 15; kind++ {
		if kind != cert.Kind {
			list["kind "+strconv.Itoa(kind)] = with(func(c *api.Cert) { c.Kind = kind })
		}
	}
	return list
}

// TestProvesForm spoils every node of certificates that prove their goals.
func TestProvesForm(t *testing.T) {
	for _, p := range proofs() {
		for change, bad := range spoiled(p.cert) {
			proves(t, p.what+" but "+change, p.hyps, p.goal, bad, false)
		}
		for i, kid := range p.cert.Kids {
			for change, bad := range spoiled(kid) {
				cert := cloneCert(p.cert)
				cert.Kids[i] = bad
				proves(t, p.what+" but "+change+" in a kid", p.hyps, p.goal, cert, false)
			}
			for k, inner := range kid.Kids {
				for change, bad := range spoiled(inner) {
					cert := cloneCert(p.cert)
					cert.Kids[i].Kids[k] = bad
					proves(t, p.what+" but "+change+" in a kid's kid", p.hyps, p.goal, cert, false)
				}
			}
		}
	}
}

// TestProvesInvalidParts has squares and multipliers that are not valid, in other variables, or too many.
func TestProvesInvalidParts(t *testing.T) {
	hyps := claims(1, "1*x >= 0", "1*x > 0", "1*x + -1 = 0")
	goal := claim(1, "1*x^2 + 1*x >= 0")
	one := squares(1, "1 1")
	good := kind1("0", squares(1, "1 1*x"), bySquares(1, "1 1"), api.Cert{}, by(1, "0"))
	proves(t, "nothing spoiled", hyps, goal, good, true)
	var bad []api.Square
	for _, p := range invalidPolys() {
		bad = append(bad, api.Square{Weight: number("0"), Poly: p})
		cert := cloneCert(good)
		cert.Kids[2].Polys[0] = p
		proves(t, "an invalid multiplier", hyps, goal, cert, false)
	}
	for _, x := range append(invalidNumbers(), number("-1")) {
		bad = append(bad, api.Square{Weight: x, Poly: read(1, "0")})
	}
	for _, n := range []int{0, 2, 8} {
		bad = append(bad, sq(n, "0", "1"), sq(n, "1", "0"))
		cert := cloneCert(good)
		cert.Kids[2].Polys[0] = read(n, "0")
		proves(t, "a multiplier in other variables", hyps, goal, cert, false)
	}
	for _, s := range bad {
		for _, list := range [][]api.Square{{s}, {s, one[0]}, {one[0], s}} {
			for i := range 2 {
				cert := cloneCert(good)
				cert.Kids[i].Squares = append(cert.Kids[i].Squares, list...)
				proves(t, "an invalid square of a multiplier", hyps, goal, cert, false)
			}
			cert := cloneCert(good)
			cert.Squares = append(cert.Squares, list...)
			proves(t, "an invalid square", hyps, goal, cert, false)
		}
	}
	// 20 squares are a sum of squares, 21 are none.
	none := slices.Repeat(squares(1, "0 1"), 19)
	proves(t, "20 squares", hyps, goal, kind1("0", append(squares(1, "1 1*x"), none...), bySquares(1, "1 1"), api.Cert{Squares: none}, by(1, "0")), true)
	proves(t, "21 squares", hyps, goal, kind1("0", append(squares(1, "1 1*x", "0 1"), none...), bySquares(1, "1 1"), api.Cert{}, by(1, "0")), false)
	proves(t, "20 squares of a multiplier", hyps, goal, kind1("0", squares(1, "1 1*x"), api.Cert{Squares: append(one, none...)}, api.Cert{}, by(1, "0")), true)
	proves(t, "21 squares of a multiplier", hyps, goal, kind1("0", squares(1, "1 1*x"), api.Cert{Squares: append(squares(1, "1 1", "0 1"), none...)}, api.Cert{}, by(1, "0")), false)
}

// constantBy makes a certificate of kind 0 with a constant multiplier for an equation.
func constantBy(c *big.Rat) api.Cert {
	return api.Cert{Polys: []api.Poly{monomial(c).poly(1)}}
}

// weighted makes a square in one variable.
func weighted(weight *big.Rat, p table) api.Square {
	return api.Square{Weight: fromBigRat(weight), Poly: p.poly(1)}
}

// TestProvesLimits has certificates that would add up to their goals, but for a part that is not valid.
func TestProvesLimits(t *testing.T) {
	zero, x2 := claim(1, "0 >= 0"), claim(1, "1*x^2 >= 0")
	x := claims(1, "1*x + -1 >= 0", "1*x + -1 = 0", "1*x + -1 = 0")
	deep := claims(1, "1*x^30 >= 0", "1*x^30 = 0")
	great := []api.Claim{{Poly: monomial(power(40), 1).poly(1), Rel: atLeast}, {Poly: monomial(power(40), 1).poly(1)}}
	none, nothing := api.Cert{}, by(1, "0")
	root := func(places int) table { return monomial(power(places), 1) }
	for _, p := range []struct {
		proof
		want bool
	}{
		{proof{"a square of degree 40", nil, zero, kind1("0", squares(1, "0 1*x^20"))}, true},
		{proof{"a square of degree 42", nil, zero, kind1("0", squares(1, "0 1*x^21"))}, false},
		{proof{"a square of degree 40 of a multiplier", x, zero, kind1("0", nil, bySquares(1, "0 1*x^20"), nothing, nothing)}, true},
		{proof{"a square of degree 42 of a multiplier", x, zero, kind1("0", nil, bySquares(1, "0 1*x^21"), nothing, nothing)}, false},
		{proof{"a square of 200 words", nil, zero, kind1("0", []api.Square{weighted(whole(0), root(3199))})}, true},
		{proof{"a square of 201 words", nil, zero, kind1("0", []api.Square{weighted(whole(0), root(3200))})}, false},
		{proof{"a square of 200 words with a small weight", nil, x2, kind1("0", []api.Square{weighted(power(-6398), root(3199))})}, true},
		{proof{"a square of 201 words with a small weight", nil, x2, kind1("0", []api.Square{weighted(power(-6400), root(3200))})}, false},
		{proof{"a square of 200 words in Den with a great weight", nil, x2, kind1("0", []api.Square{weighted(power(6398), root(-3199))})}, true},
		{proof{"a square of 201 words in Den with a great weight", nil, x2, kind1("0", []api.Square{weighted(power(6400), root(-3200))})}, false},
		{proof{"a multiplier of 200 words", x, zero, kind1("0", nil, api.Cert{Squares: []api.Square{weighted(power(6399), parse("1"))}}, constantBy(neg(power(6398))), constantBy(neg(power(6398))))}, true},
		{proof{"a multiplier of 201 words", x, zero, kind1("0", nil, api.Cert{Squares: []api.Square{weighted(power(6400), parse("1"))}}, constantBy(neg(power(6399))), constantBy(neg(power(6399))))}, false},
		{proof{"products of 200 words", great, zero, kind1("0", nil, api.Cert{Squares: []api.Square{weighted(power(6359), parse("1"))}}, constantBy(neg(power(6359))))}, true},
		{proof{"products of 201 words", great, zero, kind1("0", nil, api.Cert{Squares: []api.Square{weighted(power(6360), parse("1"))}}, constantBy(neg(power(6360))))}, false},
		{proof{"products of degree 40", deep, zero, kind1("0", nil, bySquares(1, "1 1*x^5"), by(1, "-1*x^10"))}, true},
		{proof{"products of degree 42", deep, zero, kind1("0", nil, bySquares(1, "1 1*x^6"), by(1, "-1*x^12"))}, false},
		{proof{"a multiplier of degree 40 and the hypothesis 0", claims(1, "0 = 0"), zero, kind1("0", nil, by(1, "1*x^40"))}, true},
		{proof{"nothing of each", x, zero, kind1("0", nil, none, nothing, nothing)}, true},
	} {
		proves(t, p.what, p.hyps, p.goal, p.cert, p.want)
	}
}

// TestProvesLongSums has sums of squares that are too long, though each square is not, and the whole sum is zero.
func TestProvesLongSums(t *testing.T) {
	s := source(6)
	a, b := monomial(inverse(new(big.Rat).SetInt(s.odd(90))), 1), monomial(inverse(new(big.Rat).SetInt(s.odd(80))), 1)
	first, second := weighted(whole(1), a), weighted(whole(1), b)
	hyps := claims(1, "1 >= 0", "1 > 0", "1 = 0", "1 = 0")
	opposite := []api.Cert{{Polys: []api.Poly{a.times(a).scaled(whole(-1)).poly(1)}}, {Polys: []api.Poly{b.times(b).scaled(whole(-1)).poly(1)}}}
	for _, p := range []struct {
		own, one, two []api.Square
		want          bool
	}{
		{[]api.Square{first}, []api.Square{second}, nil, true}, {nil, []api.Square{first}, []api.Square{second}, true}, {[]api.Square{first, second}, nil, nil, false}, {nil, []api.Square{first, second}, nil, false}, {nil, nil, []api.Square{second, first}, false},
	} {
		cert := kind1("0", p.own, append([]api.Cert{{Squares: p.one}, {Squares: p.two}}, opposite...)...)
		proves(t, "a sum of long squares", hyps, claim(1, "0 >= 0"), cert, p.want)
	}
}

// TestProvesLongNumbers has numbers on the way of the sums that are longer than any valid coefficient.
func TestProvesLongNumbers(t *testing.T) {
	s := source(7)
	hyps := claims(1, "1 = 0", "1 = 0", "1 = 0", "1 = 0", "1 = 0", "1 = 0", "1 = 0", "1 = 0", "1 = 0", "1 = 0")
	c, kids := whole(0), []api.Cert{}
	for range hyps {
		x := inverse(new(big.Rat).SetInt(s.odd(200)))
		c, kids = plus(c, x), append(kids, constantBy(neg(x)))
	}
	proves(t, "c of 2000 words", hyps, claim(1, "0 > 0"), kind1(c.String(), nil, kids...), true)
	proves(t, "c of 2000 words and a greater goal", hyps, claim(1, "1 > 0"), kind1(c.String(), nil, kids...), false)
	kids[9].Polys[0] = read(1, "0")
	proves(t, "c of 2000 words alone", hyps, claim(1, "0 > 0"), kind1(c.String(), nil, kids...), false)
	proves(t, "c of 4096 words", hyps, claim(1, "0 > 0"), kind1(most(4096).String(), nil, kids...), false)
	weight := inverse(most(4096))
	long := []api.Square{weighted(weight, parse("1*x")), weighted(minus(whole(1), weight), parse("-1*x")), weighted(most(4096), table{})}
	proves(t, "weights of 4096 words", nil, claim(1, "1*x^2 >= 0"), kind1("0", long), true)
	proves(t, "a weight of 4096 words", nil, claim(1, "1*x^2 >= 0"), kind1("0", long[1:]), false)
}

// TestClaimForm: the errors of Proves and Implied.
func TestClaimForm(t *testing.T) {
	good := claim(1, "1*x >= 0")
	fails := func(what string, hyps []api.Claim, goal api.Claim) {
		t.Helper()
		for _, cert := range []api.Cert{{}, kind1("0", nil), kind1("0", nil, bySquares(1, "1 1")), {Kind: 2}, {Kind: 3}} {
			if ok, e := square.Proves(hyps, goal, cert); ok || e != api.ErrForm {
				t.Errorf("Proves with %s is %t, %d", what, ok, e)
			}
		}
		if cert, e := square.Implied(hyps, goal); !isNone(cert) || e != api.ErrForm {
			t.Errorf("Implied with %s is %s, %d", what, briefCert(cert), e)
		}
	}
	bad := func(what string, c api.Claim) {
		t.Helper()
		fails(what, nil, c)
		fails(what, []api.Claim{good}, c)
		fails(what, []api.Claim{c}, good)
		fails(what, []api.Claim{good, c}, good)
		fails(what, []api.Claim{c}, c)
	}
	for _, rel := range []int{-1 << 60, -1, 3, 11} {
		bad("Rel "+strconv.Itoa(rel), api.Claim{Poly: good.Poly, Rel: rel})
	}
	for rel := range 3 {
		for what, p := range invalidPolys() {
			bad(what, api.Claim{Poly: p, Rel: rel})
		}
		for _, x := range longNumbers() {
			bad("a long coefficient", api.Claim{Poly: monomial(x).poly(1), Rel: rel})
			bad("a long coefficient behind another one", api.Claim{Poly: monomial(whole(1), 1).plus(monomial(x)).poly(1), Rel: rel})
		}
	}
	for n := range api.MaxVars + 1 {
		other := claim(n, "0 >= 0")
		if n != 1 {
			fails("other variables", []api.Claim{other}, good)
			fails("other variables", []api.Claim{good}, other)
			fails("other variables", []api.Claim{good, other}, good)
			fails("other variables", []api.Claim{other, good}, other)
		}
		ten := slices.Repeat([]api.Claim{other}, 10)
		kids := slices.Repeat([]api.Cert{{}}, 10)
		proves(t, "10 hypotheses", ten, other, kind1("0", nil, kids...), true)
		mustImply(t, ten, other)
		eleven := append(ten, other)
		if ok, e := square.Proves(eleven, other, kind1("0", nil, append(kids, api.Cert{})...)); ok || e != api.ErrForm {
			t.Errorf("Proves with 11 hypotheses is %t, %d", ok, e)
		}
		fails("11 hypotheses", eleven, other)
	}
}
