package ideal_test

import (
	"testing"

	"isochrone/api"
	"isochrone/ideal"
)

// spoil changes all memory of a polynomial, also what its slices could grow into.
func spoil(p api.Poly) {
	for i := range p.Terms {
		m := &p.Terms[i]
		for _, words := range [][]uint32{m.Coef.Num, m.Coef.Den} {
			words = words[:cap(words)]
			for k := range words {
				words[k] ^= 0x55555555
			}
		}
		exps := m.Exps[:cap(m.Exps)]
		for k := range exps {
			exps[k] += 7
		}
	}
	clear(p.Terms[:cap(p.Terms)])
}

// TestMemory: calls leave their arguments as they are, and results share no memory with them, with other results or within themselves.
func TestMemory(t *testing.T) {
	p := read(3, "5/7*x0^4 + 2/3*x0*x1 + 5*x1^3 + 1/9")
	q := read(3, "1*x0^2*x2 + -1*x1*x2 + 2/3*x0*x1*x2 + -2/3*x2^2")
	gens := readAll(3, "1*x0^2 + -1*x1", "0", "2/3*x0*x1 + -2/3*x2")
	one := readAll(2, "1*x0*x1 + -1", "1*x0")
	free := read(8, "5/7*x0^4 + 2/3*x0*x7 + 1/9")
	poly := func(p api.Poly, e api.Errno) ([]api.Poly, api.Errno) { return []api.Poly{p}, e }
	calls := map[string]func() ([]api.Poly, api.Errno){
		"Basis":                     func() ([]api.Poly, api.Errno) { return ideal.Basis(gens) },
		"Basis of one generator":    func() ([]api.Poly, api.Errno) { return ideal.Basis(gens[:1]) },
		"Reduce":                    func() ([]api.Poly, api.Errno) { return poly(ideal.Reduce(p, gens)) },
		"Reduce of a remainder":     func() ([]api.Poly, api.Errno) { return poly(ideal.Reduce(read(3, "1/3*x2^2 + 1/3*x1"), gens)) },
		"Reduce modulo zero":        func() ([]api.Poly, api.Errno) { return poly(ideal.Reduce(p, gens[1:2])) },
		"Reduce without generators": func() ([]api.Poly, api.Errno) { return poly(ideal.Reduce(free, nil)) },
		"Cofactors":                 func() ([]api.Poly, api.Errno) { return ideal.Cofactors(q, gens) },
		"Cofactors of a generator":  func() ([]api.Poly, api.Errno) { return ideal.Cofactors(gens[2], gens) },
		"Cofactors of one":          func() ([]api.Poly, api.Errno) { return ideal.Cofactors(read(2, "1"), one) },
		"Eliminate":                 func() ([]api.Poly, api.Errno) { return ideal.Eliminate(gens, 0) },
		"Eliminate of 1":            func() ([]api.Poly, api.Errno) { return ideal.Eliminate(gens, 1) },
		"others": func() ([]api.Poly, api.Errno) {
			ideal.Member(q, gens)
			ideal.Same(gens, gens[:1])
			ideal.Power(gens[2], gens, 3)
			ideal.Checks(q, gens, readAll(3, "1*x2", "1*x0", "1*x2"))
			return readAll(3, "1*x0"), api.OK
		},
	}
	arguments := [][]api.Poly{gens, one, {p, q, free}}
	var before [][]api.Poly
	for _, list := range arguments {
		before = append(before, cloneList(list))
	}
	for name, call := range calls {
		first, e := call()
		if e != api.OK || len(first) == 0 {
			t.Errorf("%s has %d polynomials, %d", name, len(first), e)
		}
		want := cloneList(first)
		second, _ := call()
		for _, p := range second {
			spoil(p)
		}
		clear(second[:cap(second)])
		for i, list := range arguments {
			if !equalLists(list, before[i]) {
				t.Fatalf("the result of %s shares memory with an argument, or the call changes one", name)
			}
		}
		sameList(t, name+" after a change of another result", first, api.OK, want, api.OK)
		checkApart(t, name, call, want)
	}
}

// checkApart checks that no two terms of a result share memory.
func checkApart(t *testing.T, name string, call func() ([]api.Poly, api.Errno), want []api.Poly) {
	t.Helper()
	for i, p := range want {
		for k := range p.Terms {
			got, _ := call()
			spoil(api.Poly{N: p.N, Terms: got[i].Terms[k : k+1 : k+1]})
			got[i].Terms[k] = p.Terms[k]
			sameList(t, name+" after a change of one of its terms", got, api.OK, want, api.OK)
		}
	}
}
