package poly_test

import (
	"testing"

	"isochrone/api"
	"isochrone/poly"
)

// spoil changes all memory of a polynomial, also what its slices could grow into.
func spoil(p api.Poly) {
	for i := range p.Terms {
		m := &p.Terms[i]
		for _, words := range [][]uint32{m.Coef.Num, m.Coef.Den} {
			words = words[:cap(words)]
			for k := range words {
				words[k] ^= 0x55555555
			}
		}
		exps := m.Exps[:cap(m.Exps)]
		for k := range exps {
			exps[k] += 7
		}
	}
	clear(p.Terms[:cap(p.Terms)])
}

// results are calls that return a polynomial, many of them much like p or q.
func results(p, q api.Poly) map[string]func() (api.Poly, api.Errno) {
	c := p.Terms[0].Coef
	one, zero, x := read(p.N, "1"), read(p.N, "0"), read(p.N, "1*x0")
	return map[string]func() (api.Poly, api.Errno){
		"Const":                func() (api.Poly, api.Errno) { return poly.Const(3, c) },
		"Var":                  func() (api.Poly, api.Errno) { return poly.Var(3, 1) },
		"Add":                  func() (api.Poly, api.Errno) { return poly.Add(p, q) },
		"Add of zero":          func() (api.Poly, api.Errno) { return poly.Add(p, zero) },
		"Add to zero":          func() (api.Poly, api.Errno) { return poly.Add(zero, p) },
		"Sub":                  func() (api.Poly, api.Errno) { return poly.Sub(p, q) },
		"Sub of zero":          func() (api.Poly, api.Errno) { return poly.Sub(p, zero) },
		"Mul":                  func() (api.Poly, api.Errno) { return poly.Mul(p, q) },
		"Mul by one":           func() (api.Poly, api.Errno) { return poly.Mul(p, one) },
		"Scale":                func() (api.Poly, api.Errno) { return poly.Scale(p, c) },
		"Scale by one":         func() (api.Poly, api.Errno) { return poly.Scale(p, one.Terms[0].Coef) },
		"Pow":                  func() (api.Poly, api.Errno) { return poly.Pow(p, 2) },
		"Pow 1":                func() (api.Poly, api.Errno) { return poly.Pow(p, 1) },
		"Coef":                 func() (api.Poly, api.Errno) { return poly.Coef(p, 2, 0) },
		"Deriv":                func() (api.Poly, api.Errno) { return poly.Deriv(p, 0) },
		"Subst":                func() (api.Poly, api.Errno) { return poly.Subst(p, 0, q) },
		"Subst by itself":      func() (api.Poly, api.Errno) { return poly.Subst(p, 0, x) },
		"Subst of no variable": func() (api.Poly, api.Errno) { return poly.Subst(p, 2, q) },
		"Divide":               func() (api.Poly, api.Errno) { return poly.Divide(p, p) },
		"Divide by one":        func() (api.Poly, api.Errno) { return poly.Divide(p, one) },
	}
}

func TestMemory(t *testing.T) {
	// No coefficient is 1, which would be its own product.
	p, q := read(3, "-5/7*x0^2 + 2/3*x0*x1 + 5*x1^3 + 1/9"), read(3, "2/3*x0*x1 + 4294967296")
	wantP, wantQ := clone(p), clone(q)
	for name, call := range results(p, q) {
		first, e := call()
		if e != api.OK || len(first.Terms) == 0 {
			t.Errorf("%s has %d terms, %d", name, len(first.Terms), e)
		}
		want := clone(first)
		second, _ := call()
		spoil(second)
		if !equal(p, wantP) || !equal(q, wantQ) {
			t.Fatalf("the result of %s shares memory with an argument, or the call changes one", name)
		}
		same(t, name+" after a change of another result", first, api.OK, want, api.OK)
		for i := range first.Terms {
			third, _ := call()
			spoil(api.Poly{N: third.N, Terms: third.Terms[i : i+1 : i+1]})
			third.Terms[i] = want.Terms[i]
			same(t, name+" after a change of one of its terms", third, api.OK, want, api.OK)
		}
	}
}

func TestEvalMemory(t *testing.T) {
	p, at := read(2, "3/2*x0"), numbers("1", "5")
	for _, p := range []api.Poly{p, read(2, "1*x0"), read(2, "7/5")} {
		want := clone(p)
		value, e := poly.Eval(p, at)
		if e != api.OK {
			t.Fatalf("error %d", e)
		}
		spoil(api.Poly{Terms: []api.Mono{{Coef: value}}})
		if !equal(p, want) || !equalNumbers(at[0], number("1")) || !equalNumbers(at[1], number("5")) {
			t.Errorf("the value of %s shares memory with an argument", brief(want))
		}
	}
}
