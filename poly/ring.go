package poly

import (
	"isochrone/api"
	"isochrone/rat"
	"isochrone/wide"
)

// Add returns p + q.
func Add(p, q api.Poly) (api.Poly, api.Errno) {
	if e := checkPair(p, q); e != api.OK {
		return api.Poly{}, e
	}
	return store(p.N, sum(load(p), load(q)))
}

// Sub returns p - q.
func Sub(p, q api.Poly) (api.Poly, api.Errno) {
	if e := checkPair(p, q); e != api.OK {
		return api.Poly{}, e
	}
	return store(p.N, sum(load(p), scaled(load(q), wide.Int(-1))))
}

// Mul returns p * q.
func Mul(p, q api.Poly) (api.Poly, api.Errno) {
	if e := checkPair(p, q); e != api.OK {
		return api.Poly{}, e
	}
	terms, fits := product(load(p), load(q))
	if !fits {
		return api.Poly{}, api.ErrLimit
	}
	return store(p.N, terms)
}

// Scale returns p times c.
func Scale(p api.Poly, c api.Rat) (api.Poly, api.Errno) {
	if !Valid(p) || !rat.Valid(c) {
		return api.Poly{}, api.ErrForm
	}
	return store(p.N, scaled(load(p), wide.Of(c)))
}

// Pow returns p to the power k: ErrRange if k is not from 0 to MaxDegree, then ErrLimit if one of the powers 1 to k is not valid.
func Pow(p api.Poly, k int) (api.Poly, api.Errno) {
	if !Valid(p) {
		return api.Poly{}, api.ErrForm
	}
	if k < 0 || k > api.MaxDegree {
		return api.Poly{}, api.ErrRange
	}
	base, terms := load(p), one()
	for range k {
		next, fits := product(terms, base)
		if !fits {
			return api.Poly{}, api.ErrLimit
		}
		terms = next
	}
	return store(p.N, terms)
}
