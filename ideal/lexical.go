package ideal

import (
	"isochrone/api"
	"isochrone/modular"
	"isochrone/wide"
)

// A search for a basis by the lexicographic order passes through numbers that are many times as long as those of its result. By the graded order numbers are short. The basis by that order tells which polynomials are in the ideal, and so the remainder by the lexicographic order is the solution of a system: a combination of certain monomials with the same remainder by the graded order. Which monomials they are is found modulo a prime, where all numbers are short.

// space has an ideal, by the basis that is easy to find.
type space struct {
	n int
	// graded is the reduced basis by the graded order.
	graded []exact
	// normals has remainders of monomials by the graded order.
	normals map[[api.MaxVars]int]exact
}

func newSpace(generators []api.Poly) *space {
	x := &space{graded: gradedRing().groebner(loadAll(generators)), normals: map[[api.MaxVars]int]exact{}}
	if len(generators) > 0 {
		x.n = generators[0].N
	}
	return x
}

// normal returns the remainder of p by the graded order. It is zero if and only if p is in the ideal.
func (x *space) normal(p exact) exact {
	return gradedRing().remainder(p, x.graded)
}

func (x *space) has(p exact) bool {
	return len(x.normal(p)) == 0
}

// normalOf returns the remainder of a monomial. It is made of that of a lower monomial, since the numbers on the way of a long division are much longer.
func (x *space) normalOf(m exponents) exact {
	if known, ok := x.normals[m.key()]; ok {
		return known
	}
	p := exact{{m, wide.Int(1)}}
	for i, k := range m {
		if k > 0 && m.degree() > 1 {
			variable := make(exponents, len(m))
			variable[i] = 1
			p = gradedRing().multiple(wide.Int(1), variable, x.normalOf(m.over(variable)))
			break
		}
	}
	rest := x.normal(p)
	x.normals[m.key()] = rest
	return rest
}

// shadow is the reduced basis by the lexicographic order of an ideal modulo a prime.
type shadow struct {
	ring[uint64]
	prime modular.Prime
	basis []image
}

// shadow returns the shadow modulo a prime, or false if the basis by the graded order is not alike modulo the prime.
func (x *space) shadow(prime modular.Prime) (shadow, bool) {
	images, ok := moduloAll(x.graded, prime)
	if !ok {
		return shadow{}, false
	}
	s := shadow{ring: ring[uint64]{residues{prime}, exponents.lexical}, prime: prime}
	for i, p := range images {
		images[i] = s.arranged(p)
	}
	s.basis = s.groebner(images)
	return s, true
}

// search calls look with shadows until one is not unsuited, and reports whether it finds something.
func (x *space) search(look func(s shadow) verdict) bool {
	for prime := modular.First; ; prime = prime.Next() {
		s, ok := x.shadow(prime)
		if !ok {
			continue
		}
		if v := look(s); v != unsuited {
			return v == found
		}
	}
}

// remainder returns a polynomial that differs from p by a member of the ideal and has no multiple of a leading term of the shadow. If these are the leading terms of the reduced basis, it is the remainder modulo the ideal; then there is one, and it is too long or its monomials are those modulo the prime, but for the few primes that divide one of its coefficients.
//
// normal is the remainder of p by the graded order.
func (x *space) remainder(p, normal exact, s shadow) (exact, verdict) {
	if len(x.graded) == 0 {
		return p, found
	}
	below, ok := modulo(p, s.prime)
	if !ok {
		return nil, unsuited
	}
	rest := s.ring.remainder(s.arranged(below), s.basis)
	columns := make([]exact, len(rest))
	for i, t := range rest {
		columns[i] = x.normalOf(t.exps)
	}
	factors, v := newSystem(columns, normal, s.prime).solve()
	if v != found {
		return nil, v
	}
	var terms exact
	for i, t := range rest {
		if !factors[i].IsZero() {
			terms = append(terms, term[wide.Num]{t.exps, factors[i]})
		}
	}
	return gradedRing().arranged(terms), found
}

// basis returns the reduced basis if it is valid.
//
// It is the reduced basis if there is a remainder for each leading term of the shadow. For no polynomial p of the ideal is without multiples of these terms: take it times a number so that the prime divides no denominator of it, and not all coefficients. As the prime divides no denominator of the basis by the graded order either, p modulo the prime is in the ideal there. It is not zero; so it has a multiple of a leading term of the shadow.
func (x *space) basis(s shadow) ([]api.Poly, verdict) {
	list, all := make([]exact, len(s.basis)), found
	for i, p := range s.basis {
		first := exact{{p[0].exps, wide.Int(1)}}
		rest, v := x.remainder(first, x.normalOf(p[0].exps), s)
		list[i], all = gradedRing().minus(first, rest), min(all, v)
	}
	if all != found {
		return nil, all
	}
	valid, ok := storeAll(x.n, list)
	if !ok {
		return nil, tooLong
	}
	return valid, found
}
