package ideal

import (
	"isochrone/api"
	"isochrone/poly"
)

const (
	// maxGenerators is the number of generators that an ideal may have.
	maxGenerators = 3
	// maxGivenWords is the number of words that Num and Den of a coefficient may have in generators and in p, and maxWords in a result.
	maxGivenWords = 2
	maxWords      = 200
	// maxVars and maxDegree are the budget: the number of variables of generators, and the degree of p.
	maxVars   = 3
	maxDegree = 6
	// maxPower is the greatest power that Power tries.
	maxPower = 4
)

// check returns the error of generators and of polynomials that should go with them: ErrForm, then ErrBudget.
func check(generators []api.Poly, others ...api.Poly) api.Errno {
	if !haveForm(generators, others...) {
		return api.ErrForm
	}
	for _, g := range generators {
		if g.N < 1 || g.N > maxVars || degree(g) > maxGeneratorDegree(g.N) {
			return api.ErrBudget
		}
	}
	for _, p := range others {
		if degree(p) > maxDegree {
			return api.ErrBudget
		}
	}
	return api.OK
}

// maxGeneratorDegree returns the degree that generators in n variables may have within the budget.
func maxGeneratorDegree(n int) int {
	if n == maxVars {
		return 2
	}
	return 3
}

// haveForm reports whether the generators are valid, and the others have short coefficients and the same variables.
func haveForm(generators []api.Poly, others ...api.Poly) bool {
	if len(generators) > maxGenerators {
		return false
	}
	for _, g := range generators {
		if !isGiven(g) || g.N != generators[0].N {
			return false
		}
	}
	for _, p := range others {
		if !isGiven(p) || len(generators) > 0 && p.N != generators[0].N {
			return false
		}
	}
	return true
}

// isGiven reports whether p is valid and has coefficients that are short enough for a generator.
func isGiven(p api.Poly) bool {
	if !poly.Valid(p) {
		return false
	}
	for _, m := range p.Terms {
		if len(m.Coef.Num) > maxGivenWords || len(m.Coef.Den) > maxGivenWords {
			return false
		}
	}
	return true
}

// degree returns the degree of a valid polynomial.
func degree(p api.Poly) int {
	d, _ := poly.Degree(p)
	return d
}
