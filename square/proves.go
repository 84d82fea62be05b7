package square

import (
	"slices"

	"isochrone/api"
	"isochrone/poly"
	"isochrone/rat"
	"isochrone/wide"
)

// The kinds of certificates.
const (
	multiplier    = 0
	combination   = 1
	twoSides      = 2
	contradiction = 3
)

// Proves reports whether the certificate proves the goal from the hypotheses.
func Proves(hyps []api.Claim, goal api.Claim, cert api.Cert) (bool, api.Errno) {
	if e := checkClaims(hyps, goal); e != api.OK {
		return false, e
	}
	return proves(hyps, goal, cert), api.OK
}

func proves(hyps []api.Claim, goal api.Claim, cert api.Cert) bool {
	switch cert.Kind {
	case combination:
		return combines(hyps, goal, cert)
	case twoSides:
		if goal.Rel == greater || !hasCombinations(cert, 2) {
			return false
		}
		first, second := sides(goal.Poly)
		return proves(hyps, first, cert.Kids[0]) && proves(hyps, second, cert.Kids[1])
	case contradiction:
		if !hasCombinations(cert, 1) {
			return false
		}
		provesKid := func(c api.Claim) bool { return proves(hyps, c, cert.Kids[0]) }
		return slices.ContainsFunc(contradictions(goal.Poly.N), provesKid)
	}
	return false
}

// hasCombinations reports whether the certificate has so many kids, all of them combinations, and nothing else.
func hasCombinations(cert api.Cert, count int) bool {
	isOther := func(kid api.Cert) bool { return kid.Kind != combination }
	return len(cert.Nums)+len(cert.Polys)+len(cert.Squares) == 0 && len(cert.Kids) == count && !slices.ContainsFunc(cert.Kids, isOther)
}

// sides returns two claims that together say that the polynomial is zero.
func sides(p api.Poly) (first, second api.Claim) {
	return api.Claim{Poly: p, Rel: atLeast}, api.Claim{Poly: negative(p), Rel: atLeast}
}

// contradictions returns claims in n variables that never hold.
func contradictions(n int) []api.Claim {
	return []api.Claim{{Poly: constant(n, wide.Int(-1)), Rel: atLeast}, {Poly: constant(n, wide.Num{}), Rel: greater}}
}

// combines is proves for a certificate of kind combination.
func combines(hyps []api.Claim, goal api.Claim, cert api.Cert) bool {
	n := goal.Poly.N
	if len(cert.Nums) != 1 || len(cert.Polys) > 0 || len(cert.Kids) != len(hyps) || !isWeight(cert.Nums[0]) || !reaches(hyps, goal.Rel, cert) {
		return false
	}
	squares, fits := checkedSum(cert.Squares, n)
	if !fits {
		return false
	}
	one := wide.Int(1)
	rest := []api.Mono{{Exps: make([]int, n), Coef: cert.Nums[0]}}
	parts := []part{{wide.Int(-1), goal.Poly.Terms}, {one, rest}, {one, squares.Terms}}
	for k, h := range hyps {
		m, fits := multiplierOf(h, cert.Kids[k])
		if !fits {
			return false
		}
		product, e := poly.Mul(m, h.Poly)
		if e != api.OK {
			return false
		}
		parts = append(parts, part{one, product.Terms})
	}
	for range total(parts) {
		// A term is left, so the goal's polynomial is another one.
		return false
	}
	return true
}

// multiplierOf returns the multiplier of a hypothesis that a certificate has, or false if it is not of the form for that. The multiplier may be a polynomial that is not valid.
func multiplierOf(h api.Claim, kid api.Cert) (m api.Poly, fits bool) {
	switch {
	case kid.Kind != multiplier || len(kid.Nums)+len(kid.Kids) > 0:
		return api.Poly{}, false
	case h.Rel == equal && len(kid.Polys) == 1 && len(kid.Squares) == 0:
		return kid.Polys[0], true
	case h.Rel == equal || len(kid.Polys) > 0:
		return api.Poly{}, false
	}
	return checkedSum(kid.Squares, h.Poly.N)
}

// checkedSum is sumOf for squares that may be no sum of squares.
func checkedSum(squares []api.Square, n int) (sum api.Poly, fits bool) {
	if !isSum(squares, n) {
		return api.Poly{}, false
	}
	return sumOf(squares, n)
}

// reaches reports whether a combination whose sum is the goal's polynomial proves a goal with the given Rel.
func reaches(hyps []api.Claim, rel int, cert api.Cert) bool {
	switch rel {
	case equal:
		return isZero(cert.Nums[0]) && len(cert.Squares) == 0 && usesEquations(hyps, cert)
	case greater:
		return !isZero(cert.Nums[0]) || usesStrictly(hyps, cert)
	}
	return true
}

// usesEquations reports whether all other hypotheses have empty multipliers.
func usesEquations(hyps []api.Claim, cert api.Cert) bool {
	for k, h := range hyps {
		if h.Rel != equal && len(cert.Kids[k].Squares) > 0 {
			return false
		}
	}
	return true
}

// usesStrictly reports whether a hypothesis with Rel 2 has a multiplier that is positive everywhere, as a constant square in it tells.
func usesStrictly(hyps []api.Claim, cert api.Cert) bool {
	for k, h := range hyps {
		if h.Rel == greater && slices.ContainsFunc(cert.Kids[k].Squares, isPositiveConstant) {
			return true
		}
	}
	return false
}

func isPositiveConstant(s api.Square) bool {
	degree, e := poly.Degree(s.Poly)
	return e == api.OK && degree == 0 && !isZero(s.Weight)
}

func isZero(x api.Rat) bool {
	return len(x.Num) == 0
}

// negative returns -p for a valid polynomial.
func negative(p api.Poly) api.Poly {
	opposite, _ := poly.Scale(p, rat.From(-1))
	return opposite
}

// constant returns a constant in n variables, which is not valid if it is too long for a coefficient.
func constant(n int, x wide.Num) api.Poly {
	if x.IsZero() {
		return api.Poly{N: n}
	}
	return api.Poly{N: n, Terms: []api.Mono{{Exps: make([]int, n), Coef: x.Rat()}}}
}
