package tree_test

import (
	"cmp"
	"slices"
	"strings"
	"testing"

	"isochrone/api"
	"isochrone/tree"
)

func TestSizeAndLevels(t *testing.T) {
	for _, c := range []struct {
		n            api.Node
		size, levels int
	}{
		{api.Node{}, 1, 1}, {x(), 1, 1}, {of(api.TNeg, x()), 2, 2}, {of(api.TAdd, x(), of(api.TNeg, x())), 4, 3}, {of(api.TAdd, of(api.TNeg, x()), x()), 4, 3},
		{flow(rate("x"), rate("y")), 6, 3}, {chain(60), 60, 60}, {sum(4095), 4095, 12},
		{of(-7, api.Node{}, of(99), of(api.TVar, api.Node{Name: "?"})), 5, 3}, {api.Node{Kids: []api.Node{}}, 1, 1}, {of(api.FTrue, slices.Repeat([]api.Node{{}}, 5000)...), 5001, 2}, {chain(1 << 16), 1 << 16, 1 << 16}, {sum(1<<18 - 1), 1<<18 - 1, 18},
	} {
		if got := tree.Size(c.n); got != c.size {
			t.Errorf("%.200s has %d nodes, not %d", show(of(c.n.Op)), got, c.size)
		}
		if got := tree.Levels(c.n); got != c.levels {
			t.Errorf("%.200s has %d levels, not %d", show(of(c.n.Op)), got, c.levels)
		}
	}
}

// checkOrder checks Compare and Equal of two trees.
func checkOrder(t *testing.T, a, b api.Node, want int) {
	t.Helper()
	if got := tree.Compare(a, b); got != want {
		t.Errorf("%.200s against %.200s is %d, not %d", show(a), show(b), got, want)
	}
	if got := tree.Equal(a, b); got != (want == 0) {
		t.Errorf("%.200s and %.200s are equal: %v", show(a), show(b), got)
	}
}

// ascending are trees in their order. Each one differs from the one ahead of it in what comes first.
func ascending() []api.Node {
	full := func(op int, name string, neg bool, num, den []uint32, kids ...api.Node) api.Node {
		return api.Node{Op: op, Name: name, Num: api.Rat{Neg: neg, Num: num, Den: den}, Kids: kids}
	}
	low, high := x(), named(api.TVar, "y")
	return []api.Node{
		full(-1<<63, "z", true, []uint32{9}, []uint32{9}, high),
		full(-1, "z", true, []uint32{9}, []uint32{9}, high),
		full(0, "", false, nil, nil),
		full(0, "", false, nil, nil, full(0, "", false, nil, nil)),
		full(0, "", false, nil, []uint32{0}),
		full(1, "", false, nil, nil),
		full(1, "", true, nil, nil),
		full(1, "A", false, nil, nil),
		full(1, "Z", false, nil, nil),
		full(1, "a", false, nil, nil),
		full(1, "aa", false, nil, nil),
		full(1, "ab", false, nil, nil),
		full(1, "b", false, nil, nil),
		full(1, "b\x00", false, nil, nil),
		full(1, "bé", false, nil, nil),
		full(1, "b\xff", false, nil, nil),
		full(2, "a", false, nil, nil, low),
		full(2, "a", false, nil, nil, high),
		full(2, "a", false, nil, nil, low, low),
		full(2, "a", false, nil, nil, low, high),
		full(2, "a", false, nil, nil, high, low),
		full(2, "a", false, nil, nil, full(3, "a", false, nil, nil), low),
		full(2, "a", false, nil, nil, full(3, "a", false, nil, nil, low), low),
		full(2, "a", false, nil, nil, low, low, low),
		full(2, "a", false, nil, []uint32{1}, low),
		full(2, "a", false, nil, []uint32{2}),
		full(2, "a", false, nil, []uint32{0, 0}),
		full(2, "a", false, nil, []uint32{5, 0}),
		full(2, "a", false, nil, []uint32{0, 1}),
		full(2, "a", false, []uint32{0}, nil),
		full(2, "a", false, []uint32{7}, []uint32{9, 9, 9}),
		full(2, "a", false, []uint32{8}, []uint32{1}),
		full(2, "a", false, []uint32{1 << 31}, []uint32{1}),
		full(2, "a", false, []uint32{1, 0}, []uint32{1}),
		full(2, "a", false, []uint32{0, 2}, []uint32{1}),
		full(2, "a", false, []uint32{1, 2}, []uint32{1}),
		full(2, "a", false, []uint32{1, 2}, []uint32{1}, low),
		full(2, "a", false, []uint32{0, 0, 0}, nil),
		full(2, "a", true, nil, nil),
		full(2, "a", true, []uint32{1}, nil),
		full(2, "a", true, []uint32{2}, nil),
		full(2, "b", false, nil, nil),
		full(1<<63-1, "", false, nil, nil),
	}
}

func TestCompare(t *testing.T) {
	list := ascending()
	for i, a := range list {
		for k, b := range list {
			checkOrder(t, clone(a), b, cmp.Compare(i, k))
			checkOrder(t, of(5, x(), of(4, a)), of(5, x(), of(4, b)), cmp.Compare(i, k))
			checkOrder(t, of(5, a, b), of(5, b, a), cmp.Compare(i, k))
		}
	}
}

func TestNilAndEmpty(t *testing.T) {
	empty := api.Node{Op: 3, Num: api.Rat{Num: []uint32{}, Den: []uint32{}}, Kids: []api.Node{}}
	checkOrder(t, api.Node{Op: 3}, empty, 0)
	checkOrder(t, empty, api.Node{Op: 3}, 0)
	checkOrder(t, of(4, empty), of(4, api.Node{Op: 3}), 0)
	long := make([]uint32, 3, 9)
	checkOrder(t, api.Node{Num: api.Rat{Num: long}}, api.Node{Num: api.Rat{Num: []uint32{0, 0, 0}}}, 0)
}

func TestCompareLarge(t *testing.T) {
	deep := chain(1 << 16)
	checkOrder(t, deep, chain(1<<16), 0)
	checkOrder(t, deep, chain(1<<16-1), 1)
	checkOrder(t, sum(200001), sum(200001), 0)
	checkOrder(t, named(2, strings.Repeat("a", 1<<20)), named(2, strings.Repeat("a", 1<<20)+"b"), -1)
}

// key lists all that Compare looks at, in its order.
func key(n api.Node) []string {
	number := func(n int) string { return string(rune(1000 + n)) }
	list := []string{number(n.Op), n.Name, number(0)}
	if n.Num.Neg {
		list[2] = number(1)
	}
	for _, words := range [][]uint32{n.Num.Num, n.Num.Den} {
		list = append(list, number(len(words)))
		for i := len(words) - 1; i >= 0; i-- {
			list = append(list, number(int(words[i])))
		}
	}
	list = append(list, number(len(n.Kids)))
	for _, kid := range n.Kids {
		list = append(list, key(kid)...)
	}
	return list
}

// any returns any node, well formed or not, of few different ones.
func (s *source) any(levels int) api.Node {
	n := api.Node{Op: s.upTo(3) - 1}
	if s.upTo(3) == 0 {
		n.Name = pick(s, []string{"x", "y", "x'", "\xff"})
	}
	if s.upTo(3) == 0 {
		lists := [][]uint32{nil, {}, {0}, {1}, {1, 0}, {0, 1}, {2, 1}}
		n.Num = api.Rat{Neg: s.upTo(2) == 0, Num: pick(s, lists), Den: pick(s, lists)}
	}
	if levels > 1 {
		for range s.upTo(2) {
			n.Kids = append(n.Kids, s.any(levels-1))
		}
	}
	return n
}

// TestCompareRandom compares with the order of keys.
func TestCompareRandom(t *testing.T) {
	s := source(3)
	count := map[int]int{}
	for range 60000 {
		a, b := s.any(1+s.upTo(2)), s.any(1+s.upTo(2))
		if s.upTo(1) == 0 {
			b = clone(a)
			*lookup(&b, pick(&s, pathsOf(b))) = s.any(1)
		}
		want := slices.Compare(key(a), key(b))
		checkOrder(t, a, b, want)
		count[want]++
		paths := pathsOf(a)
		deepest := slices.MaxFunc(paths, func(a, b []int) int { return len(a) - len(b) })
		if tree.Size(a) != len(paths) || tree.Levels(a) != len(deepest)+1 {
			t.Errorf("%s has %d nodes and %d levels", show(a), tree.Size(a), tree.Levels(a))
		}
	}
	if min(count[-1], count[0], count[1]) < 2000 {
		t.Errorf("the results are %v", count)
	}
}
