package square_test

import (
	"math/big"
	"slices"
	"testing"

	"isochrone/api"
	"isochrone/linear"
	"isochrone/square"
)

// TestImpliedLinear has goals of degree 1 that follow, and ones that do not.
func TestImpliedLinear(t *testing.T) {
	triangle := claims(2, "1*x >= 0", "1*y >= 0", "-1*x + -1*y + 1 >= 0")
	open := claims(2, "1*x > 0", "1*y > 0", "-1*x + -1*y + 1 > 0")
	point := claims(3, "1*x + 1*y + 1*z + -6 = 0", "1*x + -1*y + 1 = 0", "1*z + -3 >= 0", "-1*z + 3 >= 0")
	cube := claims(3, "1*x + 1 >= 0", "1*y + 1 >= 0", "1*z + 1 >= 0", "-1*x + 1 >= 0", "-1*y + 1 >= 0", "-1*z + 1 >= 0", "1*x + 1*y + 1*z > 0", "1*x + -1*y = 0")
	for _, c := range []struct {
		n     int
		hyps  []api.Claim
		yes   []string
		wrong []string
	}{
		{1, nil, []string{"0 = 0", "0 >= 0", "1 >= 0", "1 > 0", "1/7 > 0"}, []string{"0 > 0", "1 = 0", "-1 = 0", "-1 >= 0", "1*x >= 0", "1*x = 0", "-1*x > 0"}},
		{0, nil, []string{"0 = 0", "0 >= 0", "3 >= 0", "3 > 0"}, []string{"0 > 0", "3 = 0", "-3 >= 0"}},
		{0, claims(0, "2 > 0"), []string{"0 = 0", "1 > 0"}, []string{"-1 > 0", "1 = 0"}},
		{1, claims(1, "1*x + -2 >= 0"), []string{"1*x >= 0", "1*x > 0", "1*x + -2 >= 0", "3*x + -6 >= 0", "2*x + -39/10 > 0"}, []string{"1*x + -2 > 0", "1*x + -2 = 0", "1*x + -3 >= 0", "-1*x >= 0"}},
		{1, claims(1, "1*x + -2 > 0"), []string{"1*x + -2 > 0", "1*x + -2 >= 0", "1/2*x + -1 > 0"}, []string{"1*x + -21/10 > 0", "1*x + -2 = 0"}},
		{1, claims(1, "2*x + -1 = 0"), []string{"1*x + -1/2 = 0", "-1*x + 1/2 = 0", "1*x + -1/2 >= 0", "-1*x + 1/2 >= 0", "1*x > 0", "-1*x + 1 > 0", "0 = 0"}, []string{"1*x = 0", "1*x + -1/2 > 0", "1*x + -1 = 0", "1 = 0"}},
		{1, claims(1, "1*x + -2 >= 0", "-1*x + 2 >= 0"), []string{"1*x + -2 = 0", "7*x + -14 = 0", "1*x > 0"}, []string{"1*x + -2 > 0", "1*x + -3 = 0"}},
		{2, triangle, []string{"1*x >= 0", "-1*x + 1 >= 0", "2*x + 3*y >= 0", "-1*x + -2*y + 2 >= 0", "-1*y + 101/100 > 0", "1*x + 1*y + 1 > 0"}, []string{"1*x > 0", "-1*x + 1 > 0", "1*x + -1*y >= 0", "-1*x + 99/100 >= 0", "1*x = 0"}},
		{2, open, []string{"1*x > 0", "-1*x + 1 > 0", "2*x + 3*y > 0", "-1*x + -2*y + 2 > 0", "1*x + 1*y >= 0"}, []string{"1*x + -1/1000 > 0", "-1*x + 99/100 >= 0"}},
		{3, point, []string{"1*x + -1 = 0", "1*y + -2 = 0", "1*z + -3 = 0", "1*x + 2*y + 3*z + -14 = 0", "1*x + 2*y + 3*z + -13 > 0", "-1*x + -2*y + -3*z + 14 >= 0"}, []string{"1*x + 2*y + 3*z + -14 > 0", "1*x = 0"}},
		{3, cube, []string{"2*x + 1*z > 0", "1*x + 1/2 > 0", "1*z + 2 >= 0", "1*y + 1*x + 1 > 0", "2*x + -2*y = 0", "-1*x + 1 >= 0", "-2*x + 1*z + 3 >= 0"}, []string{"1*x >= 0", "1*z + 1 > 0", "1*x + 1/4 >= 0"}},
		{3, claims(3, "1*x + 1*y > 0", "1*y + 1*z > 0", "1*x + 1*z > 0"), []string{"1*x + 1*y + 1*z > 0"}, []string{"1*x > 0"}},
		{2, claims(2, "1*x + -1*y = 0", "1*x + 1*y >= 0"), []string{"1*x >= 0", "1*y >= 0", "3*x + -1*y >= 0"}, []string{"1*x > 0", "1*x + -2*y = 0"}},
		{3, claims(3, "1*x = 0", "1*y = 0", "1*z = 0"), []string{"1*x + 2*y + 3*z = 0", "1*x + 2*y + 3*z + 4 > 0"}, []string{"1*x + 1 = 0"}},
		{1, claims(1, "0 = 0", "0 >= 0", "1 > 0", "5 >= 0"), []string{"0 = 0", "2 > 0"}, []string{"1*x >= 0", "0 > 0"}},
	} {
		for _, text := range c.yes {
			mustImply(t, c.hyps, claim(c.n, text))
		}
		for _, text := range c.wrong {
			if implied(t, c.hyps, claim(c.n, text)) {
				t.Errorf("a certificate for %s |- %s", briefClaims(c.hyps...), text)
			}
		}
	}
}

// TestImpliedByNoPoint has hypotheses that no point satisfies: every goal follows.
func TestImpliedByNoPoint(t *testing.T) {
	for n := range 4 {
		lists := [][]api.Claim{
			claims(n, "-1 >= 0"), claims(n, "-1/7 > 0"), claims(n, "0 > 0"), claims(n, "1 = 0"), claims(n, "-2 = 0"), claims(n, "0 >= 0", "0 = 0", "0 > 0"), claims(n, "3 > 0", "-1 >= 0"),
		}
		if n > 0 {
			lists = append(lists, claims(n, "1*x > 0", "-1*x > 0"), claims(n, "1*x > 0", "-1*x >= 0"), claims(n, "1*x >= 0", "-1*x + -1 >= 0"), claims(n, "1*x = 0", "1*x + -1 = 0"), claims(n, "1*x = 0", "1*x > 0"), claims(n, "1*x = 0", "-2*x > 0"), claims(n, "1*x + -1/1000 >= 0", "3*x + -1/1000 = 0"))
		}
		if n > 2 {
			lists = append(lists, claims(n, "1*x + -1*y > 0", "1*y + -1*z >= 0", "1*z + -1*x >= 0"), claims(n, "1*x + 1*y + 1*z = 0", "1*x >= 0", "1*y >= 0", "1*z > 0"), slices.Concat(claims(n, "1*x > 0", "1*y >= 0", "1*z >= 0", "-1*x + -1*y + -1*z >= 0"), slices.Repeat(claims(n, "1*x + 1*y + 5 >= 0"), 4)))
		}
		for _, hyps := range lists {
			for _, text := range []string{"0 = 0", "0 > 0", "1 = 0", "-1 >= 0", "-1 > 0", "7 > 0"} {
				mustImply(t, hyps, claim(n, text))
			}
			if n > 0 {
				for _, text := range []string{"1*x = 0", "1*x >= 0", "1*x > 0", "-5/3*x + 2 > 0", "1*x^2 + -1 = 0", "-1*x^40 + 1*x^39 + 1*x^3 + 1*x^2 + -1 > 0"} {
					mustImply(t, hyps, claim(n, text))
				}
			}
		}
	}
}

// TestImpliedQuadratic has goals without hypotheses of degree 2.
func TestImpliedQuadratic(t *testing.T) {
	for _, c := range []struct {
		n    int
		text string
		want bool
	}{
		{1, "1*x^2 >= 0", true}, {1, "1*x^2 + 2*x + 1 >= 0", true}, {1, "1*x^2 + -3*x + 9/4 >= 0", true}, {1, "1*x^2 + -3*x + 2 >= 0", false}, {2, "1*x^2 + -2*x*y + 1*y^2 >= 0", true}, {2, "1*x^2 + -2*x*y + 2*y^2 + 1 >= 0", true}, {2, "1*x*y >= 0", false}, {3, "1*x^2 + 1*y^2 + 1*z^2 + -1*x*y + -1*y*z + -1*x*z >= 0", true}, {3, "1*x^2 + 1*y^2 + 1*z^2 + -1*x*y + -1*y*z + -11/10*x*z >= 0", false}, {4, "1*x^2 + 1*y^2 + 1*z^2 + 1*w^2 + -2*x*w + -2*y*z >= 0", true}, {4, "1*x^2 + 1*y^2 + 1*z^2 + 1*w^2 + -2*x + -4*y + -6*z + -8*w + 30 >= 0", true}, {4, "1*x^2 + 1*y^2 + 1*z^2 + 1*w^2 + -2*x + -4*y + -6*z + -8*w + 29 >= 0", false}, {4, "-1*w^2 >= 0", false}, {4, "5 >= 0", true}, {4, "0 >= 0", true}, {4, "-5 >= 0", false},
		// Not required, but found.
		{1, "1*x^2 + 1 > 0", true}, {1, "1*x^2 > 0", false}, {2, "1*x^2 + -2*x*y + 2*y^2 + -2*y + 2 > 0", true}, {2, "1*x^2 + -2*x*y + 2*y^2 + -2*y + 1 > 0", false}, {1, "1*x^2 = 0", false}, {1, "1*x^2 + 1 = 0", false},
	} {
		if got := implied(t, nil, claim(c.n, c.text)); got != c.want {
			t.Errorf("it is %t that there is a certificate for %s", got, c.text)
		}
	}
	mustImply(t, claims(2, "1*x^3 + 1*y >= 0", "1*x^2*y + -1*x = 0", "1*x + 1*y > 0"), claim(2, "1*x^2 + 1*y^2 >= 0"))
	s := source(11)
	for round := range 200 {
		n := round % 5
		p := table{}
		for range 1 + s.upTo(4) {
			q := s.table(n, 1, 7, s.fraction)
			p = p.plus(q.times(q))
		}
		mustImply(t, nil, api.Claim{Poly: p.poly(n), Rel: atLeast})
	}
}

// TestImpliedByOne has goals that are among the hypotheses, which may be of any degree in any variables.
func TestImpliedByOne(t *testing.T) {
	s := source(12)
	for round := range 120 {
		n := 1 + round%8
		var hyps []api.Claim
		for range 1 + s.upTo(9) {
			p := s.table(n, 5, 2, func() *big.Rat { return s.signed(s.long(2)) })
			if round%3 == 0 {
				p = s.table(n, 1+s.upTo(2), 5, s.small)
			}
			hyps = append(hyps, api.Claim{Poly: p.poly(n), Rel: s.upTo(2)})
		}
		for _, h := range hyps {
			mustImply(t, hyps, h)
			mustImply(t, hyps, api.Claim{Poly: h.Poly, Rel: atLeast})
		}
		mustImply(t, hyps, claim(n, "0 = 0"))
		mustImply(t, hyps, claim(n, "0 >= 0"))
	}
	cubic := claims(2, "1*x^3 + 1*x^2*y + 1*x*y^2 + 1*y^3 >= 0", "1*x^5 + 1*x^4 + 1*x + 1*y + 1 = 0", "1*x^7 + 1*x^4 + 1*x + 1*y + 1 > 0")
	for _, text := range []string{"1*x^3 + 1*x^2*y + 1*x*y^2 + 1*y^3 > 0", "1*x^3 + 1*x^2*y + 1*x*y^2 + 1*y^3 = 0", "1*x^7 + 1*x^4 + 1*x + 1*y + 1 = 0", "1*x^5 + 1*x^4 + 1*x + 1*y + 1 > 0", "0 > 0"} {
		if implied(t, cubic, claim(2, text)) {
			t.Errorf("a certificate for %s", text)
		}
	}
	// Coefficients of 20 words, for which nothing is required.
	long := api.Claim{Poly: monomial(most(20), 1).plus(monomial(inverse(most(20)), 0, 2)).plus(parse("1*x^3*y + 1*x^9 + 7")).poly(2)}
	for long.Rel = range 3 {
		mustImply(t, []api.Claim{long}, long)
	}
}

// denials returns claims of which one must hold where the goal does not.
func denials(goal api.Claim) []api.Claim {
	opposite := negated(goal.Poly)
	switch goal.Rel {
	case atLeast:
		return []api.Claim{{Poly: opposite, Rel: greater}}
	case greater:
		return []api.Claim{{Poly: opposite, Rel: atLeast}}
	}
	return []api.Claim{{Poly: goal.Poly, Rel: greater}, {Poly: opposite, Rel: greater}}
}

// asLine makes a line of a claim of degree 1.
func asLine(n int, c api.Claim) api.Line {
	p := tableOf(c.Poly)
	at := func(m key) api.Rat {
		if x := p[m]; x != nil {
			return fromBigRat(x)
		}
		return number("0")
	}
	l := api.Line{Rel: c.Rel, Const: at(key{})}
	for i := range n {
		var m key
		m[i] = 1
		x := at(m)
		l.Coefs = append(l.Coefs, fromBigRat(neg(toBigRat(x))))
	}
	return l
}

// follows decides with package linear whether a goal of degree 1 follows.
func follows(t *testing.T, n int, hyps []api.Claim, goal api.Claim) bool {
	t.Helper()
	var lines []api.Line
	for _, h := range hyps {
		lines = append(lines, asLine(n, h))
	}
	for _, d := range denials(goal) {
		_, refutation, e := linear.Solve(n, append(lines, asLine(n, d)))
		if e != api.OK {
			t.Fatalf("error %d", e)
		}
		if len(refutation) == 0 {
			return false
		}
	}
	return true
}

// TestImpliedAgainstLinear: of claims of degree 1, Implied proves exactly those that follow.
func TestImpliedAgainstLinear(t *testing.T) {
	s := source(13)
	yes, no := [3]int{}, [3]int{}
	for round := range 3000 {
		n := round % 4
		number := s.small
		if round%5 == 0 {
			number = s.fraction
		}
		var hyps []api.Claim
		for range s.upTo(8) {
			hyps = append(hyps, api.Claim{Poly: s.table(n, 1, 6, number).poly(n), Rel: [...]int{0, 1, 1, 1, 2}[s.upTo(4)]})
		}
		goal := monomial(whole(s.upTo(1) - 1))
		for _, h := range hyps {
			if s.upTo(1) == 0 {
				goal = goal.plus(tableOf(h.Poly).scaled(whole(1 + s.upTo(2))))
			}
		}
		if s.upTo(2) == 0 {
			goal = s.table(n, 1, 6, number)
		}
		g := api.Claim{Poly: goal.poly(n), Rel: s.upTo(2)}
		want := follows(t, n, hyps, g)
		if got := implied(t, hyps, g); got != want {
			t.Errorf("it is %t that there is a certificate for %s |- %s", got, briefClaims(hyps...), briefClaims(g))
		}
		if want {
			yes[g.Rel]++
		} else {
			no[g.Rel]++
		}
	}
	for rel := range 3 {
		if yes[rel] < 100 || no[rel] < 100 {
			t.Errorf("%d goals with Rel %d follow, %d do not", yes[rel], rel, no[rel])
		}
	}
}

// TestImpliedLongNumbers has coefficients of two words, with 8 hypotheses in 3 variables.
func TestImpliedLongNumbers(t *testing.T) {
	s := source(14)
	long := func() *big.Rat { return s.signed(s.long(2)) }
	found, contradicted := 0, 0
	for round := range 150 {
		n := 1 + round%3
		var hyps []api.Claim
		for k := range 8 {
			hyps = append(hyps, api.Claim{Poly: s.table(n, 1, 10, long).poly(n), Rel: [...]int{1, 2, 1, 1, 0, 2, 1, 1}[k]})
		}
		if round%2 == 0 {
			// Let one point satisfy all of them, most with some room.
			for k := range hyps {
				p := tableOf(hyps[k].Poly)
				delete(p, key{})
				if hyps[k].Rel > 0 {
					p.add(key{}, s.long(2))
				}
				hyps[k].Poly = p.poly(n)
			}
		}
		goal := api.Claim{Poly: s.table(n, 1, 10, long).poly(n), Rel: s.upTo(2)}
		want := follows(t, n, hyps, goal)
		if got := implied(t, hyps, goal); got != want {
			t.Errorf("it is %t that there is a certificate for %s |- %s", got, briefClaims(hyps...), briefClaims(goal))
		}
		if want {
			found++
		}
		if cert, _ := square.Implied(hyps, goal); cert.Kind == 3 {
			contradicted++
		}
	}
	if contradicted < 20 || found < contradicted+20 {
		t.Errorf("%d goals follow, %d of them by a contradiction", found, contradicted)
	}
}

// TestImpliedLongGoals has goals of two words that need as many hypotheses as possible.
func TestImpliedLongGoals(t *testing.T) {
	s := source(15)
	for round := range 40 {
		n := 1 + round%3
		var hyps []api.Claim
		// Each hypothesis bounds another direction: nearly that of a variable from below. The last one is far away.
		for i := range n {
			p := table{}
			for k := range n {
				var m key
				m[k] = 1
				p.add(m, neg(inverse(s.long(1+s.upTo(1)))))
				if k == i {
					p[m] = new(big.Rat).SetFrac(s.odd(2), s.odd(1))
				}
			}
			p.add(key{}, s.signed(s.long(2)))
			hyps = append(hyps, api.Claim{Poly: p.poly(n), Rel: 1 + s.upTo(1)})
		}
		goal := table{}
		for k := range n {
			var m key
			m[k] = 1
			goal.add(m, s.long(2))
		}
		goal.add(key{}, new(big.Rat).SetInt(s.odd(2)))
		for range 3 {
			g := api.Claim{Poly: goal.poly(n), Rel: s.upTo(2)}
			want := follows(t, n, hyps, g)
			if got := implied(t, hyps, g); got != want {
				t.Errorf("it is %t that there is a certificate for %s |- %s", got, briefClaims(hyps...), briefClaims(g))
			}
			goal[key{}] = s.signed(s.long(2))
		}
	}
}

// TestImpliedOthers has claims of which nothing is required but that a certificate proves the goal.
func TestImpliedOthers(t *testing.T) {
	s := source(16)
	for round := range 300 {
		n := round % 9
		var hyps []api.Claim
		for range s.upTo(10) {
			hyps = append(hyps, api.Claim{Poly: s.table(n, 1+s.upTo(2), 1+s.upTo(3), s.small).poly(n), Rel: s.upTo(2)})
		}
		goal := api.Claim{Poly: s.table(n, 1+s.upTo(2), 1+s.upTo(3), s.small).poly(n), Rel: s.upTo(2)}
		implied(t, hyps, goal)
	}
	// Few monomials, of any degree and in any variables.
	mustImply(t, claims(8, "1*x0^3*x7 + -1 >= 0"), claim(8, "2*x0^3*x7 + -1 > 0"))
	mustImply(t, claims(2, "1*x^2 + 1*y^2 + -1 = 0", "1*y^2 >= 0"), claim(2, "-1*x^2 + 1 >= 0"))
	// Numbers of 20 words: multipliers may be too long then.
	for range 20 {
		long := func() *big.Rat { return s.signed(s.long(20)) }
		var hyps []api.Claim
		for range 6 {
			hyps = append(hyps, api.Claim{Poly: s.table(3, 1, 10, long).poly(3), Rel: s.upTo(2)})
		}
		implied(t, hyps, api.Claim{Poly: s.table(3, 1, 10, long).poly(3), Rel: s.upTo(2)})
	}
	for _, c := range []struct{ hyps, goal string }{{"1*x + 1 >= 0", "1*x^3 >= 0"}, {"1*x^2 + -1*y^2 = 0", "1*x + -1*y = 0"}, {"1*x^2*y + 1*x*y^2 + 1*x*y + 1*x + 1*y > 0", "1*x + 1*y > 0"}} {
		if implied(t, claims(2, c.hyps), claim(2, c.goal)) {
			t.Errorf("a certificate for %s |- %s", c.hyps, c.goal)
		}
	}
}
