package square

import (
	"isochrone/api"
	"isochrone/poly"
	"isochrone/wide"
)

// Implied returns a certificate that proves the goal from the hypotheses: ErrForm, then ErrSeek if none is found.
func Implied(hyps []api.Claim, goal api.Claim) (api.Cert, api.Errno) {
	if e := checkClaims(hyps, goal); e != api.OK {
		return api.Cert{}, e
	}
	searches := []func(hyps []api.Claim, goal api.Claim) (api.Cert, bool){byNothing, byHypothesis, byContradiction, byLines, bySquares}
	for _, search := range searches {
		// A certificate whose numbers are too long proves nothing.
		if cert, found := search(hyps, goal); found && proves(hyps, goal, cert) {
			return cert, api.OK
		}
	}
	return api.Cert{}, api.ErrSeek
}

// byNothing finds a certificate for the zero polynomial.
func byNothing(hyps []api.Claim, goal api.Claim) (api.Cert, bool) {
	return combine(hyps, make([]wide.Num, len(hyps)), wide.Num{}, nil), len(goal.Poly.Terms) == 0
}

// byHypothesis finds a certificate for a goal that a single hypothesis says.
func byHypothesis(hyps []api.Claim, goal api.Claim) (api.Cert, bool) {
	for k, h := range hyps {
		same, _ := poly.Equal(h.Poly, goal.Poly)
		if same && (h.Rel == goal.Rel || goal.Rel == atLeast) {
			factors := make([]wide.Num, len(hyps))
			factors[k] = wide.Int(1)
			return combine(hyps, factors, wide.Num{}, nil), true
		}
	}
	return api.Cert{}, false
}

// byContradiction finds a certificate if the hypotheses contradict each other.
func byContradiction(hyps []api.Claim, _ api.Claim) (api.Cert, bool) {
	factors, sum, found := refute(hyps)
	if !found {
		return api.Cert{}, false
	}
	if !sum.IsZero() {
		factors = quotients(factors, sum.Abs())
	}
	kid := combine(hyps, factors, wide.Num{}, nil)
	return api.Cert{Kind: contradiction, Kids: []api.Cert{kid}}, true
}

// byLines finds a certificate for a goal that is a positive constant and a sum of multiples of hypotheses.
func byLines(hyps []api.Claim, goal api.Claim) (api.Cert, bool) {
	if goal.Rel != equal {
		return lineUp(hyps, goal)
	}
	first, second := sides(goal.Poly)
	one, found := lineUp(hyps, first)
	if !found {
		return api.Cert{}, false
	}
	other, found := lineUp(hyps, second)
	return api.Cert{Kind: twoSides, Kids: []api.Cert{one, other}}, found
}

// lineUp is byLines for goals that are no equations: hypotheses that contradict the opposite of the goal add up to a multiple of it.
func lineUp(hyps []api.Claim, goal api.Claim) (api.Cert, bool) {
	opposite := api.Claim{Poly: negative(goal.Poly), Rel: atLeast + greater - goal.Rel}
	factors, sum, found := refute(append(hyps[:len(hyps):len(hyps)], opposite))
	if !found || factors[len(hyps)].IsZero() {
		return api.Cert{}, false
	}
	own := factors[len(hyps)]
	return combine(hyps, quotients(factors[:len(hyps)], own), sum.Quo(own).Neg(), nil), true
}

// bySquares finds a certificate for a polynomial of degree at most 2 that is never negative, whatever the hypotheses are.
func bySquares(hyps []api.Claim, goal api.Claim) (api.Cert, bool) {
	if !isQuadratic(goal.Poly) {
		return api.Cert{}, false
	}
	f := formOf(goal.Poly)
	if f.diagonalize() < f.n || f.last().Sign() < 0 {
		return api.Cert{}, false
	}
	return combine(hyps, make([]wide.Num, len(hyps)), f.last(), f.squares()), true
}

// combine returns a certificate for the sum of the hypotheses' polynomials times the factors, a constant and squares. Factors of hypotheses that are no equations may not be negative, nor may the constant.
func combine(hyps []api.Claim, factors []wide.Num, rest wide.Num, squares []api.Square) api.Cert {
	cert := api.Cert{Kind: combination, Nums: []api.Rat{rest.Rat()}, Squares: squares}
	for k, h := range hyps {
		kid := api.Cert{Kind: multiplier}
		switch n := h.Poly.N; {
		case h.Rel == equal:
			kid.Polys = []api.Poly{constant(n, factors[k])}
		case !factors[k].IsZero():
			kid.Squares = []api.Square{{Weight: factors[k].Rat(), Poly: constant(n, wide.Int(1))}}
		}
		cert.Kids = append(cert.Kids, kid)
	}
	return cert
}

func quotients(numbers []wide.Num, divisor wide.Num) []wide.Num {
	list := make([]wide.Num, len(numbers))
	for k, x := range numbers {
		list[k] = x.Quo(divisor)
	}
	return list
}
