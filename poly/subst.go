package poly

import "isochrone/api"

// Subst replaces variable i of p by q, which may contain that variable. With d the degree of p in it, ErrLimit if one of the powers 1 to d of q is not valid, or the product of one of them with its coefficient in p, or the sum.
func Subst(p api.Poly, i int, q api.Poly) (api.Poly, api.Errno) {
	if e := checkPair(p, q); e != api.OK {
		return api.Poly{}, e
	}
	if !hasVar(p, i) {
		return api.Poly{}, api.ErrRange
	}
	terms, fits := substituted(load(p), i, load(q))
	if !fits {
		return api.Poly{}, api.ErrLimit
	}
	return store(p.N, terms)
}

// substituted returns the sum, or false if something before it is not valid.
func substituted(p []term, i int, q []term) (terms []term, fits bool) {
	raised := one()
	for k, coef := range coefficients(p, i) {
		if k > 0 {
			raised, fits = product(raised, q)
			if !fits {
				return nil, false
			}
		}
		var part []term
		part, fits = product(coef, raised)
		if !fits {
			return nil, false
		}
		terms = sum(terms, part)
	}
	return terms, true
}
