package tree_test

import (
	"slices"
	"testing"

	"isochrone/api"
	"isochrone/tree"
)

// TestConsequences: what the chapter says to follow, for random trees.
func TestConsequences(t *testing.T) {
	m := &maker{source: 5, barred: true}
	replaced := 0
	for range 800 {
		n := m.tree(1+m.upTo(2), 2+m.upTo(3), nil)
		other := m.tree(1+m.upTo(2), 1+m.upTo(2), nil)
		paths, e := tree.Paths(n)
		if e != api.OK || len(paths) != tree.Size(n) || !equalPaths(paths, pathsOf(n)) {
			t.Fatalf("the paths of %s are %v, %d", show(n), paths, e)
		}
		for _, path := range paths {
			part, e := tree.At(n, path)
			if e != api.OK || !tree.Equal(part, *lookup(&n, path)) {
				t.Fatalf("%s has %s at %v, %d", show(n), show(part), path, e)
			}
			same, e := tree.Replace(n, path, part)
			if e != api.OK || !tree.Equal(same, n) {
				t.Fatalf("%s with the same part at %v is %s, %d", show(n), path, show(same), e)
			}
			found, e := tree.Find(n, part)
			if e != api.OK || !slices.ContainsFunc(found, func(other []int) bool { return slices.Equal(other, path) }) || !slices.IsSortedFunc(found, slices.Compare) {
				t.Fatalf("%s has %s at %v, %d", show(n), show(part), found, e)
			}
			if checkReplaced(t, n, path, other) {
				replaced++
			}
		}
	}
	if replaced < 500 {
		t.Errorf("only %d trees could be changed", replaced)
	}
}

// checkReplaced checks the tree with another node at a path, and reports whether that is a tree.
func checkReplaced(t *testing.T, n api.Node, path []int, with api.Node) bool {
	t.Helper()
	changed := clone(n)
	place := lookup(&changed, path)
	want := api.ErrSort
	if sortOf(place.Op) == sortOf(with.Op) {
		*place = with
		want = naive(changed, sortOf(changed.Op))
	}
	got, e := tree.Replace(n, path, with)
	if e != want {
		t.Fatalf("%s with %s at %v is %d, not %d", show(n), show(with), path, e, want)
	}
	if e != api.OK {
		return false
	}
	if part, e := tree.At(got, path); e != api.OK || !tree.Equal(part, with) || !tree.Equal(got, changed) {
		t.Fatalf("%s with %s at %v is %s, %d", show(n), show(with), path, show(got), e)
	}
	return true
}

// TestTotalOrder: Compare is antisymmetric and transitive.
func TestTotalOrder(t *testing.T) {
	s := source(7)
	for range 300 {
		var list []api.Node
		for range 12 {
			list = append(list, s.any(1+s.upTo(1)))
		}
		for _, a := range list {
			for _, b := range list {
				if tree.Compare(a, b) != -tree.Compare(b, a) || tree.Equal(a, b) != tree.Equal(b, a) {
					t.Fatalf("%s against %s is %d, the other way %d", show(a), show(b), tree.Compare(a, b), tree.Compare(b, a))
				}
				for _, c := range list {
					if tree.Compare(a, b) <= 0 && tree.Compare(b, c) <= 0 && tree.Compare(a, c) > 0 {
						t.Fatalf("%s, %s, %s are not in one order", show(a), show(b), show(c))
					}
				}
			}
		}
	}
}
