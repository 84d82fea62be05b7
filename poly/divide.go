package poly

import "isochrone/api"

// Divide returns the polynomial s with p = q*s: ErrZero if q is zero, then ErrExact if there is none.
func Divide(p, q api.Poly) (api.Poly, api.Errno) {
	if e := checkPair(p, q); e != api.OK {
		return api.Poly{}, e
	}
	if len(q.Terms) == 0 {
		return api.Poly{}, api.ErrZero
	}
	above, below := load(p), load(q)
	if !mayDivide(below, above, p.N) {
		return api.Poly{}, api.ErrExact
	}
	terms, exact := divided(above, below)
	if !exact {
		return api.Poly{}, api.ErrExact
	}
	return store(p.N, terms)
}

// divided returns s with p = q*s, or false if there is none. It finds the terms of s in descending order: the next one times the first term of q is the first term of what is left of p without the products so far.
func divided(p, q []term) (s []term, exact bool) {
	first, top := q[0], quotientDegrees(p, q)
	products := newRows(q[1:])
	for len(p) > 0 || !products.isDone() {
		var left term
		left, p = nextLeft(p, products)
		if left.coef.IsZero() {
			continue
		}
		if !first.exps.divides(left.exps) {
			return nil, false
		}
		t := term{left.exps - first.exps, left.coef.Quo(first.coef)}
		if !top.allow(t.exps) {
			return nil, false
		}
		products.extend(t)
	}
	return products.list, true
}

// nextLeft returns the first term of p less the products, perhaps with the coefficient zero, and the terms of p that come after it.
func nextLeft(p []term, products *rows) (left term, after []term) {
	if products.isDone() || len(p) > 0 && p[0].exps > products.next() {
		return p[0], p[1:]
	}
	left = products.take()
	left.coef = left.coef.Neg()
	if len(p) > 0 && p[0].exps == left.exps {
		left.coef = left.coef.Add(p[0].coef)
		p = p[1:]
	}
	return left, p
}

// degrees are those of a polynomial: the total one, and the one in each variable.
type degrees struct {
	total int
	each  [api.MaxVars]int
}

// quotientDegrees returns the degrees that p/q must have: degrees of a product are sums of degrees.
func quotientDegrees(p, q []term) degrees {
	d := degrees{total: totalDegree(p) - totalDegree(q)}
	for i := range d.each {
		d.each[i] = degreeIn(p, i) - degreeIn(q, i)
	}
	return d
}

// allow reports whether no degree of m is greater.
func (d degrees) allow(m monomial) bool {
	for i, most := range d.each {
		if m.exponent(i) > most {
			return false
		}
	}
	return m.degree() <= d.total
}
