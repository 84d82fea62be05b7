package ideal

import (
	"slices"

	"isochrone/api"
	"isochrone/modular"
	"isochrone/poly"
	"isochrone/wide"
)

// exact is a polynomial with rational coefficients.
type exact = polynomial[wide.Num]

// image is a polynomial modulo a prime.
type image = polynomial[uint64]

// gradedRing has the exact polynomials in graded order.
func gradedRing() ring[wide.Num] {
	return ring[wide.Num]{rationals{}, exponents.graded}
}

// load takes a valid polynomial. Its monomials are those of p, which nothing changes; store copies them.
func load(p api.Poly) exact {
	terms := make(exact, len(p.Terms))
	for i, m := range p.Terms {
		terms[i] = term[wide.Num]{m.Exps, wide.Of(m.Coef)}
	}
	return gradedRing().arranged(terms)
}

func loadAll(list []api.Poly) []exact {
	all := make([]exact, len(list))
	for i, p := range list {
		all[i] = load(p)
	}
	return all
}

// store returns a polynomial in n variables if it is valid.
func store(n int, p exact) (api.Poly, bool) {
	lexical := ring[wide.Num]{rationals{}, exponents.lexical}
	made := api.Poly{N: n}
	for _, t := range lexical.arranged(p) {
		made.Terms = append(made.Terms, api.Mono{Exps: slices.Clone(t.exps), Coef: t.coef.Rat()})
	}
	return made, poly.Valid(made)
}

// storeAll returns polynomials in n variables if all of them are valid.
func storeAll(n int, all []exact) ([]api.Poly, bool) {
	list := make([]api.Poly, len(all))
	for i, p := range all {
		valid := false
		list[i], valid = store(n, p)
		if !valid {
			return nil, false
		}
	}
	return list, true
}

// modulo returns the polynomial modulo a prime, or false if the prime divides a numerator or a denominator, so that its terms would not be those of the polynomial.
func modulo(p exact, prime modular.Prime) (image, bool) {
	terms := make(image, len(p))
	for i, t := range p {
		num, den := t.coef.Residues(uint64(prime))
		if num == 0 || den == 0 {
			return nil, false
		}
		terms[i] = term[uint64]{t.exps, prime.Times(num, prime.Inverse(den))}
	}
	return terms, true
}

// moduloAll returns polynomials modulo a prime, or false.
func moduloAll(all []exact, prime modular.Prime) ([]image, bool) {
	images := make([]image, len(all))
	for i, p := range all {
		ok := false
		images[i], ok = modulo(p, prime)
		if !ok {
			return nil, false
		}
	}
	return images, true
}
