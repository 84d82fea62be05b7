package square_test

import (
	"math/big"
	"testing"

	"isochrone/api"
	"isochrone/square"
)

// squaresOf returns a sum of squares with small numbers.
func (s *source) squaresOf(n int) []api.Square {
	var list []api.Square
	for range s.upTo(2) {
		list = append(list, api.Square{Weight: fromBigRat(whole(s.upTo(2))), Poly: s.table(n, s.upTo(1), 6, s.small).poly(n)})
	}
	return list
}

// certificate returns a certificate of kind 1, and the polynomial that it proves something of.
func (s *source) certificate(n int, hyps []api.Claim) (api.Cert, table) {
	cert := api.Cert{Kind: 1, Nums: []api.Rat{fromBigRat(whole(s.upTo(1) * s.upTo(2)))}, Squares: s.squaresOf(n)}
	total := monomial(toBigRat(cert.Nums[0])).plus(sum(cert.Squares))
	for _, h := range hyps {
		kid := api.Cert{Squares: s.squaresOf(n)}
		m := sum(kid.Squares)
		if h.Rel == equal {
			m = s.table(n, 1, 5, s.small)
			kid = api.Cert{Polys: []api.Poly{m.poly(n)}}
		}
		cert.Kids = append(cert.Kids, kid)
		total = total.plus(m.times(tableOf(h.Poly)))
	}
	return cert, total
}

// grid calls check with all points of small coordinates.
func grid(n int, check func(at []*big.Rat)) {
	at := make([]*big.Rat, n)
	var fill func(i int)
	fill = func(i int) {
		if i == n {
			check(at)
			return
		}
		for k := -2; k <= 2; k++ {
			at[i] = big.NewRat(int64(k), 1)
			fill(i + 1)
		}
	}
	fill(0)
}

// checkEverywhere checks that a claim holds where the hypotheses do, and counts these points.
func checkEverywhere(t *testing.T, n int, hyps []api.Claim, goal api.Claim, cert api.Cert) int {
	t.Helper()
	count := 0
	grid(n, func(at []*big.Rat) {
		for _, h := range hyps {
			if ok, e := square.Holds(h, point(at)); !ok || e != api.OK {
				return
			}
		}
		count++
		if ok, e := square.Holds(goal, point(at)); !ok || e != api.OK {
			t.Errorf("%s does not hold at %s, though %s proves it from %s", briefClaims(goal), briefPoint(point(at)), briefCert(cert), briefClaims(hyps...))
		}
	})
	return count
}

// TestProvedClaimsHold: what a certificate proves holds at each point at which the hypotheses do.
func TestProvedClaimsHold(t *testing.T) {
	s := source(17)
	points, proved := 0, [3]int{}
	for round := range 500 {
		n := round % 4
		var hyps []api.Claim
		for range s.upTo(3) {
			hyps = append(hyps, api.Claim{Poly: s.table(n, 1+s.upTo(1), 5, s.small).poly(n), Rel: s.upTo(2)})
		}
		cert, total := s.certificate(n, hyps)
		for rel := range 3 {
			goal := api.Claim{Poly: total.poly(n), Rel: rel}
			want := certifies(hyps, total, rel, cert)
			proves(t, briefCert(cert)+" for "+briefClaims(hyps...), hyps, goal, cert, want)
			if want {
				proved[rel]++
				points += checkEverywhere(t, n, hyps, goal, cert)
			}
			proves(t, "another goal", hyps, api.Claim{Poly: total.plus(monomial(whole(-1))).poly(n), Rel: rel}, cert, false)
		}
	}
	if points < 5000 || proved[0] < 10 || proved[1] != 500 || proved[2] < 50 {
		t.Errorf("%v claims are proved at %d points", proved, points)
	}
}

// TestImpliedClaimsHold: what Implied proves holds at each point at which the hypotheses do.
func TestImpliedClaimsHold(t *testing.T) {
	s := source(18)
	points := 0
	for round := range 600 {
		n := round % 4
		var hyps []api.Claim
		for range s.upTo(3) {
			hyps = append(hyps, api.Claim{Poly: s.table(n, 1, 5, s.small).poly(n), Rel: s.upTo(2)})
		}
		goal := api.Claim{Poly: s.table(n, 1+s.upTo(1), 5, s.small).poly(n), Rel: s.upTo(2)}
		if cert, e := square.Implied(hyps, goal); e == api.OK {
			points += checkEverywhere(t, n, hyps, goal, cert)
		}
	}
	if points < 500 {
		t.Errorf("only %d points", points)
	}
}
