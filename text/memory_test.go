package text_test

import (
	"testing"

	"isochrone/api"
	"isochrone/text"
	"isochrone/tree"
)

// places adds the addresses of all elements of a tree's lists, also of what the lists could grow into.
func places(n api.Node, add func(place any)) {
	for _, words := range [][]uint32{n.Num.Num, n.Num.Den} {
		words = words[:cap(words)]
		for i := range words {
			add(&words[i])
		}
	}
	kids := n.Kids[:cap(n.Kids)]
	for i := range kids {
		add(&kids[i])
	}
	for _, kid := range n.Kids {
		places(kid, add)
	}
}

// TestMemory: trees that Parse returns share no memory, neither with each other nor within themselves.
func TestMemory(t *testing.T) {
	seen := map[any]bool{}
	for range 2 {
		for _, c := range examples() {
			for _, s := range []string{c.text, c.text + " # " + c.text} {
				n, _, e := text.Parse(s, c.sort)
				if e != api.OK {
					t.Fatalf("%q is %d", s, e)
				}
				places(n, func(place any) {
					if seen[place] {
						t.Errorf("a part of %q is shared", s)
					}
					seen[place] = true
				})
			}
		}
	}
}

// TestArguments: Print leaves its argument as it is, and returns the same again.
func TestArguments(t *testing.T) {
	for _, c := range examples() {
		before := clone(c.n)
		first, _ := text.Print(c.n)
		second, _ := text.Print(c.n)
		if first != second || !tree.Equal(c.n, before) {
			t.Errorf("%s is changed", first)
		}
	}
}
