package ideal

import (
	"isochrone/api"
	"isochrone/modular"
	"isochrone/poly"
	"isochrone/wide"
)

// Cofactors returns a polynomial for each generator, so that p is the sum of cofactors times generators: ErrNone, before ErrLimit, if p is not in the ideal. They have low degrees.
func Cofactors(p api.Poly, gens []api.Poly) ([]api.Poly, api.Errno) {
	if e := check(gens, p); e != api.OK {
		return nil, e
	}
	x := newSpace(gens)
	if !x.has(load(p)) {
		return nil, api.ErrNone
	}
	if _, e := x.fullBasis(); e != api.OK {
		return nil, e
	}
	cofactors, ok := cofactorsOf(load(p), loadAll(gens))
	if !ok {
		return nil, api.ErrLimit
	}
	list, ok := storeAll(p.N, cofactors)
	if !ok {
		return nil, api.ErrLimit
	}
	return list, api.OK
}

// Checks reports whether p is the sum of cofactors times generators: ErrForm, then ErrLimit if a product or the sum is not valid.
func Checks(p api.Poly, gens, cofactors []api.Poly) (bool, api.Errno) {
	if !haveForm(gens, p) || len(cofactors) != len(gens) {
		return false, api.ErrForm
	}
	for _, c := range cofactors {
		if !poly.Valid(c) || c.N != p.N {
			return false, api.ErrForm
		}
	}
	var total exact
	for i, c := range cofactors {
		product, e := poly.Mul(c, gens[i])
		if e != api.OK {
			return false, e
		}
		total = gradedRing().sum(total, load(product))
	}
	sum, ok := store(p.N, total)
	if !ok {
		return false, api.ErrLimit
	}
	return areEqual(sum, p), api.OK
}

// cofactorsOf returns cofactors of p, which needs to be in the ideal, if their coefficients are short.
func cofactorsOf(p exact, generators []exact) ([]exact, bool) {
	for prime := modular.First; ; prime = prime.Next() {
		if !isMemberModulo(prime, p, generators) {
			continue
		}
		list, question := leastMultiples(p, generators, prime)
		factors, v := question.solve()
		if v != unsuited {
			return joined(list, factors, len(generators)), v == found
		}
	}
}

// isMemberModulo reports whether p is in the ideal of the generators modulo a prime, and all of them are alike there. If p is in the ideal, this is so for all primes but a few.
func isMemberModulo(prime modular.Prime, p exact, generators []exact) bool {
	images, ok := moduloAll(generators, prime)
	if !ok {
		return false
	}
	below, ok := modulo(p, prime)
	if !ok {
		return false
	}
	r := ring[uint64]{residues{prime}, exponents.graded}
	return len(r.remainder(below, r.groebner(images))) == 0
}

// multiple is a monomial times a generator.
type multiple struct {
	monomial  exponents
	generator int
}

// leastMultiples returns the multiples of generators up to the least degree from which on p is a sum of them modulo the prime, and the system that asks for their factors. It needs a p that is in the ideal modulo the prime.
func leastMultiples(p exact, generators []exact, prime modular.Prime) ([]multiple, *system) {
	var list []multiple
	var columns []exact
	for degree := 0; ; degree++ {
		for _, m := range multiplesOf(generators, degree) {
			list = append(list, m)
			columns = append(columns, gradedRing().multiple(wide.Int(1), m.monomial, generators[m.generator]))
		}
		if degree < p.degree() {
			continue
		}
		if question := newSystem(columns, p, prime); question.isSolvable() {
			return list, question
		}
	}
}

// multiplesOf returns the multiples of the generators that are not zero, of the given degree.
func multiplesOf(generators []exact, degree int) []multiple {
	var list []multiple
	for i, g := range generators {
		if len(g) == 0 {
			continue
		}
		for _, m := range monomials(len(g[0].exps), degree-g.degree()) {
			list = append(list, multiple{m, i})
		}
	}
	return list
}

// joined returns the cofactors that the factors of multiples make.
func joined(list []multiple, factors []wide.Num, count int) []exact {
	cofactors := make([]exact, count)
	for i, x := range factors {
		if m := list[i]; !x.IsZero() {
			cofactors[m.generator] = append(cofactors[m.generator], term[wide.Num]{m.monomial, x})
		}
	}
	return cofactors
}
