package square

import (
	"slices"

	"isochrone/api"
	"isochrone/linear"
	"isochrone/rat"
	"isochrone/wide"
)

// refute returns factors with which the sum of the claims' polynomials is a constant, although the claims say otherwise: the constant is negative, or it is zero and a claim with Rel 2 has a positive factor. Factors of claims that are no equations are not negative.
//
// It takes the opposite of each monomial for a variable of its own. So it finds factors for claims of degree 1 in few variables whenever there are some, and for other claims now and then.
func refute(claims []api.Claim) (factors []wide.Num, sum wide.Num, found bool) {
	monomials := monomialsOf(claims)
	if len(monomials) > api.MaxVars {
		// No system has so many variables.
		return nil, wide.Num{}, false
	}
	var lines []api.Line
	for _, c := range claims {
		lines = append(lines, lineOf(c, monomials))
	}
	_, refutation, e := linear.Solve(len(monomials), lines)
	if e != api.OK || len(refutation) == 0 {
		return nil, wide.Num{}, false
	}
	for k, x := range refutation {
		factors = append(factors, wide.Of(x))
		sum = sum.Add(wide.Of(lines[k].Const).Mul(factors[k]))
	}
	return factors, sum, true
}

// monomialsOf returns the exponents that occur in the claims, each once, without those of constants.
func monomialsOf(claims []api.Claim) [][]int {
	var list [][]int
	for _, c := range claims {
		for _, m := range c.Poly.Terms {
			if !isConstant(m) {
				list = append(list, m.Exps)
			}
		}
	}
	slices.SortFunc(list, slices.Compare)
	return slices.CompactFunc(list, slices.Equal)
}

func isConstant(m api.Mono) bool {
	return !slices.ContainsFunc(m.Exps, func(k int) bool { return k > 0 })
}

// lineOf returns a claim as a line: the terms with opposites of monomials are equal to the constant, at most the constant or less.
func lineOf(c api.Claim, monomials [][]int) api.Line {
	l := api.Line{Rel: c.Rel, Const: coefOf(c.Poly, make([]int, c.Poly.N))}
	for _, exps := range monomials {
		l.Coefs = append(l.Coefs, coefOf(c.Poly, exps))
	}
	return l
}

// coefOf returns the coefficient of a monomial.
func coefOf(p api.Poly, exps []int) api.Rat {
	for _, m := range p.Terms {
		if slices.Equal(m.Exps, exps) {
			return m.Coef
		}
	}
	return rat.From(0)
}
