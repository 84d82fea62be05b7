package tree_test

import (
	"slices"
	"testing"

	"isochrone/api"
	"isochrone/tree"
)

// result is a tree or a list of paths.
type result struct {
	node  api.Node
	paths [][]int
}

func (r result) cloned() result {
	paths := slices.Clone(r.paths)
	for i, path := range paths {
		paths[i] = slices.Clone(path)
	}
	return result{clone(r.node), paths}
}

func (r result) equals(other result) bool {
	return tree.Equal(r.node, other.node) && equalPaths(r.paths, other.paths)
}

// parts lists functions that each spoil one list of a result, and what it could grow into.
func (r *result) parts() []func() {
	var list []func()
	var visit func(n *api.Node)
	visit = func(n *api.Node) {
		for i := range n.Kids {
			visit(&n.Kids[i])
		}
		for _, words := range [][]uint32{n.Num.Num, n.Num.Den} {
			words = words[:cap(words)]
			list = append(list, func() {
				for i := range words {
					words[i]++
				}
			})
		}
		kids := n.Kids[:cap(n.Kids)]
		list = append(list, func() {
			for i := range kids {
				kids[i].Op += 1000
			}
		})
	}
	visit(&r.node)
	for _, path := range r.paths {
		path = path[:cap(path)]
		list = append(list, func() {
			for i := range path {
				path[i] += 1000
			}
		})
	}
	return list
}

// wipe clears the lists of a result and what they could grow into.
func wipe(r result) {
	for _, spoil := range r.parts() {
		spoil()
	}
	clear(r.node.Kids[:cap(r.node.Kids)])
	clear(r.paths[:cap(r.paths)])
}

// differences counts the lists of two results of the same shape that differ.
func differences(a, b result) int {
	count := 0
	for i, path := range a.paths {
		if !slices.Equal(path, b.paths[i]) {
			count++
		}
	}
	var visit func(a, b api.Node)
	visit = func(a, b api.Node) {
		if !slices.Equal(a.Num.Num, b.Num.Num) {
			count++
		}
		if !slices.Equal(a.Num.Den, b.Num.Den) {
			count++
		}
		if slices.ContainsFunc(a.Kids, func(kid api.Node) bool { return kid.Op >= 1000 }) {
			count++
		}
		for i := range a.Kids {
			visit(a.Kids[i], b.Kids[i])
		}
	}
	visit(a.node, b.node)
	return count
}

// TestMemory: calls leave their arguments as they are, and results share no memory with them, with other results or within themselves.
func TestMemory(t *testing.T) {
	shared := of(api.TMul, num(5), x())
	n := of(api.FAnd, example(), of(api.FEq, shared, shared))
	with := of(api.TPow, of(api.TAdd, shared, shared), num(3))
	path := []int{1, 1}
	calls := map[string]func() (api.Node, [][]int, api.Errno){
		"At":                  func() (api.Node, [][]int, api.Errno) { r, e := tree.At(n, path[:1]); return r, nil, e },
		"At the root":         func() (api.Node, [][]int, api.Errno) { r, e := tree.At(n, nil); return r, nil, e },
		"Replace":             func() (api.Node, [][]int, api.Errno) { r, e := tree.Replace(n, path, with); return r, nil, e },
		"Replace of the root": func() (api.Node, [][]int, api.Errno) { r, e := tree.Replace(with, nil, shared); return r, nil, e },
		"Replace by itself":   func() (api.Node, [][]int, api.Errno) { r, e := tree.Replace(n, path[:1], n); return r, nil, e },
		"Paths":               func() (api.Node, [][]int, api.Errno) { r, e := tree.Paths(n); return api.Node{}, r, e },
		"Find":                func() (api.Node, [][]int, api.Errno) { r, e := tree.Find(n, shared); return api.Node{}, r, e },
		"others": func() (api.Node, [][]int, api.Errno) {
			tree.Check(n, formula)
			tree.Compare(n, with)
			tree.Equal(n, n)
			return num(uint32(tree.Size(n) + tree.Levels(n))), nil, api.OK
		},
	}
	before, beforeWith := clone(n), clone(with)
	for name, call := range calls {
		run := func() result { node, paths, _ := call(); return result{node, paths} }
		first := run()
		if _, _, e := call(); e != api.OK {
			t.Fatalf("%s is %d", name, e)
		}
		want := first.cloned()
		for i := range first.parts() {
			spoiled := run()
			spoiled.parts()[i]()
			if count := differences(spoiled, want); count > 1 {
				t.Errorf("a change of part %d of the result of %s changes %d", i, name, count)
			}
			if !tree.Equal(n, before) || !tree.Equal(with, beforeWith) || !slices.Equal(path, []int{1, 1}) {
				t.Fatalf("the result of %s shares memory with an argument, or the call changes one", name)
			}
		}
		wipe(run())
		if !tree.Equal(n, before) || !tree.Equal(with, beforeWith) || !first.equals(want) || !run().equals(want) {
			t.Errorf("two results of %s differ or share memory", name)
		}
	}
}
