package poly

import (
	"isochrone/api"
	"isochrone/wide"
)

// Degree returns the total degree of p, -1 for the zero polynomial.
func Degree(p api.Poly) (int, api.Errno) {
	if !Valid(p) {
		return 0, api.ErrForm
	}
	return totalDegree(load(p)), api.OK
}

// DegreeIn returns the degree of p in variable i, -1 for the zero polynomial.
func DegreeIn(p api.Poly, i int) (int, api.Errno) {
	if e := checkVar(p, i); e != api.OK {
		return 0, e
	}
	return degreeIn(load(p), i), api.OK
}

// Coef returns the coefficient of the k-th power of variable i, a polynomial in which that variable does not occur; ErrRange if k is negative.
func Coef(p api.Poly, i, k int) (api.Poly, api.Errno) {
	if e := checkVar(p, i); e != api.OK {
		return api.Poly{}, e
	}
	if k < 0 {
		return api.Poly{}, api.ErrRange
	}
	coefs := coefficients(load(p), i)
	if k >= len(coefs) {
		return store(p.N, nil)
	}
	return store(p.N, coefs[k])
}

// Deriv returns the partial derivative of p by variable i.
func Deriv(p api.Poly, i int) (api.Poly, api.Errno) {
	if e := checkVar(p, i); e != api.OK {
		return api.Poly{}, e
	}
	var terms []term
	for _, t := range load(p) {
		if k := t.exps.exponent(i); k > 0 {
			terms = append(terms, term{t.exps - power(i, 1), t.coef.Mul(wide.Int(k))})
		}
	}
	return store(p.N, terms)
}

func totalDegree(p []term) int {
	degree := -1
	for _, t := range p {
		degree = max(degree, t.exps.degree())
	}
	return degree
}

func degreeIn(p []term, i int) int {
	degree := -1
	for _, t := range p {
		degree = max(degree, t.exps.exponent(i))
	}
	return degree
}

// coefficients returns the coefficients of the powers of variable i, from power 0 to the degree.
func coefficients(p []term, i int) [][]term {
	coefs := make([][]term, degreeIn(p, i)+1)
	for _, t := range p {
		k := t.exps.exponent(i)
		coefs[k] = append(coefs[k], term{t.exps - power(i, k), t.coef})
	}
	return coefs
}
