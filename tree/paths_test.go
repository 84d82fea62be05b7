package tree_test

import (
	"slices"
	"testing"

	"isochrone/api"
	"isochrone/tree"
)

// example is [x := x + 1; {x' = x, c & x > 0}] x > 0.
func example() api.Node {
	positive := of(api.FGt, x(), num(0))
	ode := of(api.PFlow, named(api.PRate, "x", x()), named(api.PRest, "c"), positive)
	return of(api.FBox, of(api.PSeq, named(api.PAssign, "x", of(api.TAdd, x(), num(1))), ode), positive)
}

// failing are roots and the errors that At, Replace, Paths and Find return for them first.
func failing() map[api.Errno][]api.Node {
	return map[api.Errno][]api.Node{
		api.ErrSort:  {{}, rate("x"), named(api.PRest, "c"), of(99, chain(70)), of(-1, x()), of(0, sum(5000)), of(api.PRate, sum(5000)), of(api.PRest, chain(70)), of(14)},
		api.ErrLimit: {chain(61), sum(4001), of(api.FBox, chain(70)), of(api.TNum, sum(4000))},
		api.ErrForm:  {of(api.TVar), of(api.TAdd, x()), of(api.FBox, x(), x()), named(api.PTest, "x"), of(api.TNeg, rate("x")), of(api.TDiff, xPrime()), of(api.TNeg, api.Node{}), of(api.PFlow, rate("x"))},
	}
}

func TestFirstErrors(t *testing.T) {
	for want, list := range failing() {
		for _, n := range list {
			for _, path := range [][]int{nil, {0}, {7}, {-1}} {
				if got, e := tree.At(n, path); e != want || !tree.Equal(got, api.Node{}) {
					t.Errorf("At of %.100s is %.100s, %d", show(n), show(got), e)
				}
				for _, with := range []api.Node{x(), {}, of(api.TAdd), of(api.FTrue)} {
					if got, e := tree.Replace(n, path, with); e != want || !tree.Equal(got, api.Node{}) {
						t.Errorf("Replace in %.100s is %.100s, %d", show(n), show(got), e)
					}
				}
			}
			if got, e := tree.Paths(n); e != want || len(got) > 0 {
				t.Errorf("Paths of %.100s are %v, %d", show(n), got, e)
			}
			if got, e := tree.Find(n, n); e != want || len(got) > 0 {
				t.Errorf("Find in %.100s is %v, %d", show(n), got, e)
			}
		}
	}
}

func TestAt(t *testing.T) {
	n := example()
	for _, c := range []struct {
		path []int
		want api.Node
	}{
		{nil, n}, {[]int{}, n}, {[]int{1}, of(api.FGt, x(), num(0))}, {[]int{1, 1}, num(0)}, {[]int{0, 0, 0}, of(api.TAdd, x(), num(1))}, {[]int{0, 0, 0, 1}, num(1)}, {[]int{0, 1, 0}, named(api.PRate, "x", x())}, {[]int{0, 1, 1}, named(api.PRest, "c")}, {[]int{0, 1, 2, 0}, x()},
	} {
		got, e := tree.At(n, c.path)
		if e != api.OK || !tree.Equal(got, c.want) {
			t.Errorf("at %v is %s, %d", c.path, show(got), e)
		}
	}
	if got, e := tree.At(chain(60), make([]int, 59)); e != api.OK || !tree.Equal(got, x()) {
		t.Errorf("at the end is %s, %d", show(got), e)
	}
	if got, e := tree.At(sum(4000), []int{0, 1}); e != api.OK || !tree.Equal(got, sum(4000).Kids[0].Kids[1]) {
		t.Errorf("in a large tree it is %.100s, %d", show(got), e)
	}
	for _, path := range [][]int{{2}, {-1}, {0, 2}, {0, 1, 3}, {1, 0, 0}, {1, 1, 0}, {0, -1}, {0, 0, 0, 1, 0}, {0, 0, 0, 1, -1}, {1 << 62}, {-1 << 63}, {1, -2}, {-1, 0}, {5, 0}, make([]int, 100000), {0, 1, 1, 0}} {
		if got, e := tree.At(n, path); e != api.ErrRange || !tree.Equal(got, api.Node{}) {
			t.Errorf("at %.10v is %s, %d", path, show(got), e)
		}
	}
}

func TestReplace(t *testing.T) {
	n := example()
	for _, c := range []struct {
		path []int
		with api.Node
	}{
		{nil, of(api.FTrue)}, {[]int{}, n}, {[]int{0}, named(api.PSys, "a")}, {[]int{1}, n}, {[]int{1, 0}, of(api.TMul, x(), x())}, {[]int{1, 1}, xPrime()}, {[]int{0, 1}, named(api.PChoose, "y")}, {[]int{0, 1, 0}, rate("y")}, {[]int{0, 1, 1}, rate("y")}, {[]int{0, 1, 1}, named(api.PRest, "d")}, {[]int{0, 0, 0, 1}, of(api.TDiff, x())},
	} {
		want := clone(n)
		*lookup(&want, c.path) = c.with
		got, e := tree.Replace(n, c.path, c.with)
		if e != api.OK || !tree.Equal(got, want) {
			t.Errorf("with %s at %v it is %s, %d", show(c.with), c.path, show(got), e)
		}
	}
	term := of(api.TPow, x(), num(2))
	if got, e := tree.Replace(term, []int{1}, num(20)); e != api.OK || !tree.Equal(got, of(api.TPow, x(), num(20))) {
		t.Errorf("another exponent gives %s, %d", show(got), e)
	}
}

func TestReplaceErrors(t *testing.T) {
	n := example()
	for _, c := range []struct {
		path []int
		with api.Node
		want api.Errno
	}{
		{[]int{2}, of(api.FTrue), api.ErrRange}, {[]int{-1}, n, api.ErrRange}, {[]int{1, 1, 0}, num(1), api.ErrRange}, {[]int{5}, api.Node{}, api.ErrRange}, {[]int{1, 2}, of(api.TAdd), api.ErrRange}, {[]int{0, 0, 1}, chain(100), api.ErrRange},
		{nil, x(), api.ErrSort}, {nil, named(api.PSys, "a"), api.ErrSort}, {nil, api.Node{}, api.ErrSort}, {nil, rate("x"), api.ErrSort}, {[]int{0}, of(api.FTrue), api.ErrSort}, {[]int{0, 1, 0}, x(), api.ErrSort}, {[]int{0, 1, 1}, named(api.PSys, "c"), api.ErrSort}, {[]int{0, 1, 2}, rate("x"), api.ErrSort}, {[]int{1, 0}, of(api.FTrue, sum(5000)), api.ErrSort}, {[]int{1, 0}, of(98), api.ErrSort}, {[]int{1, 0}, api.Node{}, api.ErrSort}, {[]int{1}, chain(100), api.ErrSort},
		{nil, of(api.FEq, chain(60), x()), api.ErrLimit}, {[]int{1, 0}, chain(59), api.ErrLimit}, {[]int{1, 0}, sum(4000), api.ErrLimit}, {[]int{1, 0}, of(api.TNeg, chain(70), x()), api.ErrLimit}, {[]int{0, 1, 0}, of(api.PRate, sum(3999)), api.ErrLimit},
		{nil, of(api.FNot), api.ErrForm}, {[]int{1, 0}, of(api.TVar), api.ErrForm}, {[]int{1, 0}, of(api.TNeg, api.Node{}), api.ErrForm}, {[]int{0, 1, 0}, named(api.PRest, "d"), api.ErrForm}, {[]int{0, 1, 0, 0}, xPrime(), api.ErrForm}, {[]int{0, 1, 2, 0}, of(api.TDiff, x()), api.ErrForm}, {[]int{0, 1, 1}, named(api.PRate, "x", num(1)), api.ErrForm}, {[]int{0, 1, 2}, of(api.FDiff, of(api.FTrue)), api.ErrForm},
	} {
		if got, e := tree.Replace(n, c.path, c.with); e != c.want || !tree.Equal(got, api.Node{}) {
			t.Errorf("with %.100s at %v it is %s, %d, not %d", show(c.with), c.path, show(got), e, c.want)
		}
	}
	// a part that is allowed alone, at a place where it is not
	quotient := of(api.TDiv, x(), num(2))
	diff := of(api.FDiff, of(api.FAnd, of(api.FTrue), of(api.FLt, x(), num(1))))
	for _, c := range []struct {
		n    api.Node
		path []int
		with api.Node
	}{
		{quotient, []int{1}, num(0)}, {quotient, []int{1}, x()}, {of(api.TPow, x(), num(2)), []int{1}, num(21)}, {diff, []int{0, 1}, of(api.FNot, of(api.FTrue))}, {diff, []int{0, 1, 0}, xPrime()}, {of(api.TDiff, x()), []int{0}, of(api.TDiff, x())}, {of(api.TNeg, of(api.TDiff, x())), []int{0, 0}, xPrime()},
	} {
		if got, e := tree.Replace(c.n, c.path, c.with); e != api.ErrForm || !tree.Equal(got, api.Node{}) {
			t.Errorf("%s with %s at %v is %s, %d", show(c.n), show(c.with), c.path, show(got), e)
		}
	}
	// at the limits
	if got, e := tree.Replace(n, []int{1, 0}, chain(58)); e != api.OK || tree.Levels(got) != 60 {
		t.Errorf("with 60 levels it is %d", e)
	}
	if got, e := tree.Replace(n, []int{1, 0}, sum(4000-tree.Size(n)+1)); e != api.OK || tree.Size(got) != 4000 {
		t.Errorf("with 4000 nodes it is %d", e)
	}
	if _, e := tree.Replace(n, []int{1, 0}, sum(4000-tree.Size(n)+2)); e != api.ErrLimit {
		t.Errorf("with 4001 nodes it is %d", e)
	}
	ring := []api.Node{{Op: api.TNeg}}
	ring[0].Kids = ring
	if _, e := tree.Replace(n, []int{1, 0}, ring[0]); e != api.ErrLimit {
		t.Errorf("with a tree without an end it is %d", e)
	}
}

func equalPaths(a, b [][]int) bool {
	return slices.EqualFunc(a, b, slices.Equal)
}

func TestPaths(t *testing.T) {
	for _, c := range []struct {
		n    api.Node
		want [][]int
	}{
		{x(), [][]int{{}}}, {of(api.TNeg, x()), [][]int{{}, {0}}}, {of(api.TAdd, of(api.TNeg, x()), x()), [][]int{{}, {0}, {0, 0}, {1}}},
		{example(), [][]int{{}, {0}, {0, 0}, {0, 0, 0}, {0, 0, 0, 0}, {0, 0, 0, 1}, {0, 1}, {0, 1, 0}, {0, 1, 0, 0}, {0, 1, 1}, {0, 1, 2}, {0, 1, 2, 0}, {0, 1, 2, 1}, {1}, {1, 0}, {1, 1}}},
		{chain(60), pathsOf(chain(60))}, {sum(4000), pathsOf(sum(4000))},
	} {
		got, e := tree.Paths(c.n)
		if e != api.OK || !equalPaths(got, c.want) {
			t.Errorf("the paths of %.200s are %.20v, %d", show(c.n), got, e)
		}
	}
}

func TestFind(t *testing.T) {
	n := example()
	positive := of(api.FGt, x(), num(0))
	sameAs := func(node api.Node) api.Node { node.Kids = []api.Node{}; node.Num.Num = []uint32{}; return node }
	for _, c := range []struct {
		part api.Node
		want [][]int
	}{
		{n, [][]int{{}}}, {positive, [][]int{{0, 1, 2}, {1}}}, {x(), [][]int{{0, 0, 0, 0}, {0, 1, 0, 0}, {0, 1, 2, 0}, {1, 0}}}, {sameAs(x()), [][]int{{0, 0, 0, 0}, {0, 1, 0, 0}, {0, 1, 2, 0}, {1, 0}}}, {sameAs(num(0)), [][]int{{0, 1, 2, 1}, {1, 1}}}, {named(api.PRest, "c"), [][]int{{0, 1, 1}}}, {named(api.PRate, "x", x()), [][]int{{0, 1, 0}}},
		{num(2), nil}, {named(api.TVar, "y"), nil}, {xPrime(), nil}, {api.Node{}, nil}, {of(99), nil}, {named(api.TVar, "x", x()), nil}, {of(api.FGt, num(0), x()), nil}, {of(api.FGt, x()), nil}, {of(api.FBox, sum(5000)), nil}, {chain(1 << 16), nil},
	} {
		got, e := tree.Find(n, c.part)
		if e != api.OK || !equalPaths(got, c.want) {
			t.Errorf("%.200s is at %v, %d", show(c.part), got, e)
		}
	}
	double := of(api.TAdd, x(), x())
	for range 9 {
		double = of(api.TAdd, double, double)
	}
	if got, e := tree.Find(double, double.Kids[1]); e != api.OK || !equalPaths(got, [][]int{{0}, {1}}) {
		t.Errorf("halves are at %v, %d", got, e)
	}
	if got, e := tree.Find(double, x()); e != api.OK || len(got) != 1024 {
		t.Errorf("x is at %d places, %d", len(got), e)
	}
	ring := []api.Node{{Op: api.FGt}}
	ring[0].Kids = ring
	if got, e := tree.Find(n, ring[0]); e != api.OK || len(got) > 0 {
		t.Errorf("a tree without an end is at %v, %d", got, e)
	}
}
