package ideal

import (
	"slices"

	"isochrone/sorted"
)

// term is a term of a polynomial. Its coefficient is not zero.
type term[C any] struct {
	exps exponents
	coef C
}

// polynomial has terms in descending order, by the order of a ring.
type polynomial[C any] []term[C]

// ring has the operations on polynomials over a field, whose terms are in a certain order.
type ring[C any] struct {
	field[C]
	order func(a, b exponents) int
}

// arranged returns a polynomial of another order in the order of this ring.
func (r ring[C]) arranged(p polynomial[C]) polynomial[C] {
	return slices.SortedFunc(slices.Values(p), func(s, t term[C]) int { return r.order(t.exps, s.exps) })
}

func (r ring[C]) sum(p, q polynomial[C]) polynomial[C] {
	order := func(s, t term[C]) int { return r.order(t.exps, s.exps) }
	join := func(s, t term[C]) (term[C], bool) {
		coef := r.plus(s.coef, t.coef)
		return term[C]{s.exps, coef}, !r.isZero(coef)
	}
	return sorted.Merge(p, q, order, join)
}

// multiple returns c*m*p. It needs a number c that is not zero.
func (r ring[C]) multiple(c C, m exponents, p polynomial[C]) polynomial[C] {
	product := make(polynomial[C], len(p))
	for i, t := range p {
		product[i] = term[C]{m.times(t.exps), r.times(c, t.coef)}
	}
	return product
}

func (r ring[C]) minus(p, q polynomial[C]) polynomial[C] {
	opposite := make(polynomial[C], len(q))
	for i, t := range q {
		opposite[i] = term[C]{t.exps, r.neg(t.coef)}
	}
	return r.sum(p, opposite)
}

func (r ring[C]) product(p, q polynomial[C]) polynomial[C] {
	var total polynomial[C]
	for _, t := range p {
		total = r.sum(total, r.multiple(t.coef, t.exps, q))
	}
	return total
}

// monic returns the multiple of p that begins with the coefficient 1. It needs a polynomial that is not zero.
func (r ring[C]) monic(p polynomial[C]) polynomial[C] {
	return r.multiple(r.inverse(p[0].coef), make(exponents, len(p[0].exps)), p)
}

// remainder returns what is left of p, without multiples of leading terms of the divisors, after it is divided by them. It needs divisors that are monic.
func (r ring[C]) remainder(p polynomial[C], divisors []polynomial[C]) polynomial[C] {
	var rest polynomial[C]
	for len(p) > 0 {
		first := p[0]
		p = p[1:]
		i := slices.IndexFunc(divisors, func(d polynomial[C]) bool { return d[0].exps.divides(first.exps) })
		if i < 0 {
			rest = append(rest, first)
			continue
		}
		// The leading terms cancel each other.
		d := divisors[i]
		p = r.sum(p, r.multiple(r.neg(first.coef), first.exps.over(d[0].exps), d[1:]))
	}
	return rest
}

// degree returns the total degree of p, -1 for zero.
func (p polynomial[C]) degree() int {
	most := -1
	for _, t := range p {
		most = max(most, t.exps.degree())
	}
	return most
}
