package root_test

import (
	"testing"

	"isochrone/api"
	"isochrone/root"
)

// spoil changes all memory of a number, also what its slices could grow into.
func spoil(x api.Rat) {
	for _, words := range [][]uint32{x.Num, x.Den} {
		words = words[:cap(words)]
		for i := range words {
			words[i] ^= 0x55555555
		}
	}
}

func spoilList(c []api.Rat) {
	for _, x := range c {
		spoil(x)
	}
	clear(c[:cap(c)])
}

func spoilRoot(r *api.Root) {
	spoilList(r.Poly)
	spoil(r.Lo)
	spoil(r.Hi)
}

// arguments are those of all calls of TestMemory.
type arguments struct {
	a, b []api.Rat
	x    api.Rat
	r    api.Root
	s    api.Root
}

func (g arguments) clone() arguments {
	return arguments{cloneList(g.a), cloneList(g.b), cloneRat(g.x), cloneRoot(g.r), cloneRoot(g.s)}
}

func (g arguments) equals(h arguments) bool {
	return equalLists(g.a, h.a) && equalLists(g.b, h.b) && equalNumbers(g.x, h.x) && equalRoots(g.r, h.r) && equalRoots(g.s, h.s)
}

// result has all that a call returns.
type result struct {
	numbers []api.Rat
	roots   []api.Root
	e       api.Errno
}

func listResult(c []api.Rat, e api.Errno) result   { return result{c, nil, e} }
func numberResult(x api.Rat, e api.Errno) result   { return result{[]api.Rat{x}, nil, e} }
func rootResult(r api.Root, e api.Errno) result    { return result{nil, []api.Root{r}, e} }
func rootsResult(r []api.Root, e api.Errno) result { return result{nil, r, e} }
func pairResult(q, r []api.Rat, e api.Errno) result {
	return result{append(q[:len(q):len(q)], r...), nil, e}
}
func (got result) memory() (numbers []api.Rat, all []api.Rat) {
	all = append(all, got.numbers...)
	for _, r := range got.roots {
		all = append(append(all, r.Poly...), r.Lo, r.Hi)
	}
	return got.numbers, all
}

func calls(g arguments) map[string]func() result {
	one := read("1")
	return map[string]func() result{
		"Eval":             func() result { return numberResult(root.Eval(g.a, g.x)) },
		"Eval of constant": func() result { return numberResult(root.Eval(g.a[:1], g.x)) },
		"Add":              func() result { return listResult(root.Add(g.a, g.b)) },
		"Add of zero":      func() result { return listResult(root.Add(g.a, nil)) },
		"Add to zero":      func() result { return listResult(root.Add(nil, g.a)) },
		"Mul":              func() result { return listResult(root.Mul(g.a, g.b)) },
		"Mul by one":       func() result { return listResult(root.Mul(g.a, one)) },
		"DivMod":           func() result { return pairResult(root.DivMod(g.a, g.b)) },
		"DivMod by more":   func() result { return pairResult(root.DivMod(g.b, g.a)) },
		"DivMod by one":    func() result { return pairResult(root.DivMod(g.a, one)) },
		"GCD":              func() result { return listResult(root.GCD(g.a, g.a)) },
		"GCD with zero":    func() result { return listResult(root.GCD(g.r.Poly, nil)) },
		"Deriv":            func() result { return listResult(root.Deriv(g.a)) },
		"SquareFree":       func() result { return listResult(root.SquareFree(g.r.Poly)) },
		"Bound":            func() result { return numberResult(root.Bound(g.a)) },
		"Isolate":          func() result { return rootsResult(root.Isolate(g.r.Poly)) },
		"Isolate of a":     func() result { return rootsResult(root.Isolate(g.a)) },
		"Halve":            func() result { return rootResult(root.Halve(g.r)) },
		"Halve of a point": func() result { return rootResult(root.Halve(g.s)) },
		"Rational":         func() result { return rootResult(root.Rational(g.x)) },
		"Between":          func() result { return numberResult(root.Between(g.r, g.s)) },
		"others": func() result {
			root.Count(g.a, g.x, g.x)
			root.Sign(g.a, g.r)
			root.Cmp(g.r, g.s)
			root.ValidRoot(g.r)
			root.Valid(g.a)
			return result{[]api.Rat{number("1")}, nil, api.OK}
		},
	}
}

func TestMemory(t *testing.T) {
	g := arguments{read("-3/7 2/5 7 11/3"), read("5 -2/9 13"), number("17/6"), rootOf("6/5 0 -5 0 1", "1/3", "3/2"), rootOf("-7 1", "7", "7")}
	want := g.clone()
	for name, call := range calls(g) {
		first := call()
		_, all := first.memory()
		if first.e != api.OK || len(all) == 0 {
			t.Errorf("%s has error %d and %d numbers", name, first.e, len(all))
		}
		before := cloneList(all)
		second := call()
		numbers, others := second.memory()
		for i := range second.roots {
			spoilRoot(&second.roots[i])
		}
		for i := range others {
			if len(second.roots) == 0 {
				spoil(others[i])
			}
		}
		clear(numbers)
		if !g.equals(want) {
			t.Fatalf("the result of %s shares memory with an argument, or the call changes one", name)
		}
		if !equalLists(all, before) {
			t.Errorf("two results of %s share memory", name)
		}
		// No two numbers of a result share memory.
		for i := range all {
			_, numbers := call().memory()
			spoil(numbers[i])
			for k := range numbers {
				if k != i && !equalNumbers(numbers[k], before[k]) {
					t.Errorf("numbers %d and %d of the result of %s share memory", i, k, name)
				}
			}
		}
	}
}

// TestRootsHaveListsOfTheirOwn changes the list of one Root of a result.
func TestRootsHaveListsOfTheirOwn(t *testing.T) {
	list := must[[]api.Root](t)(root.Isolate(read("-6 11 -6 1")))
	want := cloneRoot(list[1])
	clear(list[0].Poly[:cap(list[0].Poly)])
	clear(list[2].Poly[:cap(list[2].Poly)])
	sameRoot(t, "a Root after a change of its neighbours", list[1], api.OK, want, api.OK)
}
