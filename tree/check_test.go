package tree_test

import (
	"regexp"
	"slices"
	"strings"
	"testing"

	"isochrone/api"
	"isochrone/tree"
)

func TestName(t *testing.T) {
	for _, name := range []string{"x", "Z", "a1", "Speed2", "abcdefghijkl", "A23456789012", "truE", "True", "trues", "forall1", "exist", "e"} {
		if !tree.Name(name) {
			t.Errorf("%q is a name", name)
		}
	}
	for _, s := range []string{"", "abcdefghijklm", strings.Repeat("a", 100000), "1", "1a", "x'", "x_1", "x y", " x", "x ", "é", "xé", "x\x00", "\xff", "true", "false", "forall", "exists", "@", "[", "`", "{", "a/", "a:", "a@", "a[", "a`", "a{"} {
		if tree.Name(s) {
			t.Errorf("%.20q is no name", s)
		}
	}
}

// TestNameBytes: each byte as the first one and behind it.
func TestNameBytes(t *testing.T) {
	const letters = "abcdefghijklmnopqrstuvwxyzABCDEFGHIJKLMNOPQRSTUVWXYZ"
	for c := range 256 {
		letter := strings.IndexByte(letters, byte(c)) >= 0
		digit := strings.IndexByte("0123456789", byte(c)) >= 0
		if tree.Name(string([]byte{byte(c)})) != letter {
			t.Errorf("byte %d alone", c)
		}
		if tree.Name(string([]byte{'x', byte(c), 'y'})) != (letter || digit) {
			t.Errorf("byte %d in the middle", c)
		}
	}
}

func TestSort(t *testing.T) {
	count := map[int]int{}
	for op := -70; op < 200; op++ {
		got := tree.Sort(op)
		if got != sortOf(op) {
			t.Errorf("the sort of %d is %d", op, got)
		}
		count[got]++
	}
	if count[term] != 13 || count[formula] != 20 || count[program] != 11 || count[equation] != 2 {
		t.Errorf("there are %v operators of the sorts", count)
	}
	for _, op := range []int{-1 << 63, 1<<63 - 1, 1 << 32, 1<<32 + api.TNum, 256 + api.TVar, -api.TVar} {
		if got := tree.Sort(op); got != none {
			t.Errorf("the sort of %d is %d", op, got)
		}
	}
}

// checkAll checks the results of Check for trees as nodes of their root's sort.
func checkAll(t *testing.T, want api.Errno, trees ...api.Node) {
	t.Helper()
	for _, n := range trees {
		if e := tree.Check(n, sortOf(n.Op)); e != want {
			t.Errorf("%.300s is %d, not %d", show(n), e, want)
		}
	}
}

// inside puts a node where one of its sort may stand.
func inside(n api.Node) api.Node {
	switch sortOf(n.Op) {
	case term:
		return of(api.FEq, num(1), n)
	case formula:
		return of(api.PTest, n)
	case equation:
		return flow(n)
	}
	return of(api.FBox, n, of(api.FTrue))
}

// TestShapes: each operator with and without a name, a number and kids of each number and sort.
func TestShapes(t *testing.T) {
	for _, op := range operators {
		good := sample(op)
		checkAll(t, api.OK, inside(good))
		rename := func(name string) api.Node { n := clone(good); n.Name = name; return n }
		renumber := func(x api.Rat) api.Node { n := clone(good); n.Num = x; return n }
		if hasName(op) {
			checkAll(t, api.OK, inside(rename("abcdefghijkl")))
			checkAll(t, api.ErrForm, inside(rename("")), inside(rename("x'")), inside(rename("true")), inside(rename("abcdefghijklm")))
		} else {
			checkAll(t, api.ErrForm, inside(rename("x")), inside(rename(" ")))
		}
		if op != api.TNum {
			checkAll(t, api.ErrForm, inside(renumber(words())), inside(renumber(words(1))), inside(renumber(api.Rat{Neg: true})), inside(renumber(api.Rat{Num: []uint32{1}})), inside(renumber(api.Rat{Num: []uint32{0}})))
		}
	}
}

// lists calls check with all lists of at most four sorts, 0 for a node of no operator.
func lists(check func(sorts []int)) {
	var extend func(sorts []int)
	extend = func(sorts []int) {
		check(sorts)
		if len(sorts) < 4 {
			for sort := none; sort <= equation; sort++ {
				extend(append(slices.Clone(sorts), sort))
			}
		}
	}
	extend(nil)
}

// kidOf returns a node of a sort for the place i among the kids of an operator.
func kidOf(op, sort, i int) api.Node {
	switch {
	case sort == none:
		return api.Node{}
	case sort == formula && op == api.FDiff:
		return of(api.FTrue)
	case sort == equation:
		return rate(string(rune('a' + i)))
	}
	return simple(sort)
}

// kidsOf are the expressions that the sorts of the kids of an operator match.
var kidsOf = func() map[int]*regexp.Regexp {
	all := map[int]*regexp.Regexp{}
	for op, g := range grammar {
		all[op] = regexp.MustCompile("^(" + strings.TrimLeft(g[1:], "#n") + ")$")
	}
	return all
}()

// matches reports whether the kids of a node have the sorts that its operator wants.
func matches(n api.Node) bool {
	var sorts []byte
	for _, kid := range n.Kids {
		sorts = append(sorts, letters[sortOf(kid.Op)])
	}
	return kidsOf[n.Op].Match(sorts)
}

// TestKids: each operator with all lists of up to four kids.
func TestKids(t *testing.T) {
	good := 0
	for _, op := range operators {
		lists(func(sorts []int) {
			n := sample(op)
			n.Kids = nil
			for i, sort := range sorts {
				n.Kids = append(n.Kids, kidOf(op, sort, i))
			}
			want := api.ErrForm
			if matches(n) {
				want = api.OK
				good++
			}
			checkAll(t, want, inside(n))
		})
	}
	if good != len(operators)+2+2 { // TFun and FPred may have a kid or none; a flow may have one to three equations here
		t.Errorf("%d lists of kids are good", good)
	}
}

func TestNumbers(t *testing.T) {
	natural := func(x api.Rat) api.Node { return api.Node{Op: api.TNum, Num: x} }
	checkAll(t, api.OK, natural(words()), natural(words(1)), natural(words(0, 0, 1)), natural(longest(20)))
	checkAll(t, api.ErrForm, natural(longest(21)), natural(words(append(slices.Repeat([]uint32{0}, 20), 1)...)), natural(longest(api.MaxWords)), natural(longest(api.MaxWords+1)),
		natural(api.Rat{}), natural(api.Rat{Num: []uint32{1}}), natural(api.Rat{Neg: true, Num: []uint32{1}, Den: []uint32{1}}), natural(api.Rat{Neg: true, Den: []uint32{1}}),
		natural(api.Rat{Num: []uint32{1}, Den: []uint32{2}}), natural(api.Rat{Num: []uint32{4}, Den: []uint32{2}}), natural(api.Rat{Num: []uint32{1}, Den: []uint32{1, 0}}), natural(api.Rat{Num: []uint32{1}, Den: []uint32{1, 1}}), natural(api.Rat{Num: []uint32{1}, Den: []uint32{0}}),
		natural(words(0)), natural(words(1, 0)))
}

func TestDivisorsAndExponents(t *testing.T) {
	div := func(n api.Node) api.Node { return of(api.TDiv, x(), n) }
	pow := func(n api.Node) api.Node { return of(api.TPow, x(), n) }
	large := api.Node{Op: api.TNum, Num: longest(20)}
	checkAll(t, api.OK, div(num(1)), div(num(21)), div(large), div(api.Node{Op: api.TNum, Num: words(0, 1)}), pow(num(0)), pow(num(1)), pow(num(20)), of(api.TPow, large, num(20)), of(api.TDiv, num(0), num(1)))
	checkAll(t, api.ErrForm, div(num(0)), div(x()), div(of(api.TDot)), div(of(api.TNeg, num(1))), div(of(api.TAdd, num(1), num(1))), div(named(api.TFun, "c")), div(api.Node{Op: api.TNum, Num: words(0)}), div(api.Node{Op: api.TVar, Name: "x", Num: words(1)}),
		pow(num(21)), pow(num(1<<31)), pow(large), pow(api.Node{Op: api.TNum, Num: words(0, 1)}), pow(api.Node{Op: api.TNum, Num: words(2, 1)}), pow(x()), pow(of(api.TDot)), pow(of(api.TNeg, num(1))), pow(api.Node{Op: api.TNum}), pow(api.Node{Op: api.TVar, Name: "x"}), pow(named(api.TFun, "c")))
}

func TestFlows(t *testing.T) {
	rest := named(api.PRest, "c")
	checkAll(t, api.OK, flow(rate("x")), flow(rest), flow(rate("x"), rate("y")), flow(rate("y"), rate("x"), rest), flow(rate("x"), named(api.PRest, "x")), of(api.PFlow, rate("x"), of(api.FBox, of(api.PFlow, rate("x"), rest, of(api.FFalse)), of(api.FTrue))))
	checkAll(t, api.ErrForm, flow(), of(api.PFlow), of(api.PFlow, rate("x")), of(api.PFlow, rate("x"), rate("y")), of(api.PFlow, rest), flow(rate("x"), rate("x")), flow(rate("x"), rate("y"), rate("z"), rate("x")), flow(rate("x"), rate("x"), rest),
		flow(rest, rate("x")), flow(rest, rest), flow(rest, named(api.PRest, "d")), flow(rate("x"), rest, rate("y")), flow(rate("x"), rest, rest), flow(rate("x"), of(api.FTrue)), flow(of(api.FTrue), rate("x")), flow(named(api.PAssign, "x", num(1))), flow(x()), flow(api.Node{}),
		of(api.PFlow, of(api.FTrue), rate("x")), of(api.PFlow, rate("x"), x()), of(api.PFlow, rate("x"), named(api.PSys, "a")), of(api.PFlow, rate("x"), api.Node{}))
	// equations alone, or in another place
	checkAll(t, api.ErrForm, of(api.PTest, rate("x")), of(api.PSeq, rate("x"), named(api.PSys, "a")), of(api.PAlt, rest, rest), of(api.PLoop, rate("x")), of(api.FBox, rest, of(api.FTrue)), of(api.TNeg, rate("x")), of(api.FNot, rest), flow(named(api.PRate, "x", rate("y"))))
	var many []api.Node
	for i := range 1999 {
		many = append(many, rate("v"+string([]byte{'a' + byte(i/676), 'a' + byte(i/26%26), 'a' + byte(i%26)})))
	}
	checkAll(t, api.OK, flow(many...))
	many[0].Name = many[1998].Name
	checkAll(t, api.ErrForm, flow(many...))
}

// TestDifferentials: what may and may not occur inside differentials and flows, at any depth.
func TestDifferentials(t *testing.T) {
	eq := func(n api.Node) api.Node { return of(api.FEq, num(0), of(api.TAdd, n, x())) }
	diff := func(n api.Node) api.Node { return of(api.TDiff, of(api.TMul, num(2), n)) }
	fdiff := func(n api.Node) api.Node { return of(api.FDiff, of(api.FAnd, of(api.FTrue), n)) }
	flows := func(n api.Node) api.Node { return flow(named(api.PRate, "x", of(api.TNeg, n))) }
	domain := func(n api.Node) api.Node { return of(api.PFlow, rate("x"), of(api.FNot, n)) }
	box := func(n api.Node) api.Node { return of(api.FBox, n, of(api.FTrue)) }
	for _, plain := range []api.Node{x(), of(api.TDot), named(api.TFun, "f", x()), named(api.TAny, "F"), of(api.TDiv, x(), num(2))} {
		checkAll(t, api.OK, diff(plain), fdiff(eq(plain)), flows(plain), domain(eq(plain)))
	}
	checkAll(t, api.OK, xPrime(), of(api.TNeg, xPrime()), of(api.TAdd, xPrime(), of(api.TDiff, x())), fdiff(eq(diff(x()))), fdiff(named(api.FPred, "p", diff(x()))), domain(box(named(api.PPrime, "x", x()))), of(api.FAnd, fdiff(eq(x())), eq(xPrime())), of(api.FImp, box(flows(x())), eq(diff(x()))))
	checkAll(t, api.ErrForm, diff(diff(x())), diff(named(api.TFun, "f", diff(x()))), diff(xPrime()), diff(of(api.TPow, xPrime(), num(2))), fdiff(eq(xPrime())), fdiff(eq(diff(xPrime()))), fdiff(eq(diff(diff(x())))), fdiff(named(api.FPred, "p", xPrime())),
		flows(xPrime()), flows(diff(x())), domain(eq(xPrime())), domain(eq(diff(x()))), domain(fdiff(of(api.FTrue))), domain(box(named(api.PAssign, "x", xPrime()))), domain(box(flows(xPrime()))), domain(box(of(api.PTest, fdiff(eq(x()))))))
	allowed := map[int]bool{api.FTrue: true, api.FFalse: true, api.FEq: true, api.FNe: true, api.FLt: true, api.FLe: true, api.FGt: true, api.FGe: true, api.FAnd: true, api.FOr: true, api.FPred: true, api.FAny: true}
	for _, op := range operators {
		if sortOf(op) != formula {
			continue
		}
		want := api.ErrForm
		if allowed[op] {
			want = api.OK
		}
		checkAll(t, want, of(api.FDiff, sample(op)), fdiff(sample(op)), fdiff(of(api.FOr, sample(op), of(api.FFalse))))
	}
}

func TestCheckOrder(t *testing.T) {
	deep, large := chain(61), sum(4001)
	for _, c := range []struct {
		n    api.Node
		sort int
		want api.Errno
	}{
		{x(), 0, api.ErrRange}, {x(), 4, api.ErrRange}, {rate("x"), 4, api.ErrRange}, {x(), -1, api.ErrRange}, {x(), 1 << 40, api.ErrRange}, {deep, 0, api.ErrRange}, {api.Node{}, 5, api.ErrRange},
		{deep, 1, api.ErrLimit}, {deep, 2, api.ErrLimit}, {large, 1, api.ErrLimit}, {large, 3, api.ErrLimit}, {of(api.FEq, deep), 2, api.ErrLimit}, {of(99, large), 1, api.ErrLimit}, {of(0, deep), 2, api.ErrLimit}, {named(api.TVar, "", deep), 1, api.ErrLimit}, {of(api.TNum, chain(60)), 1, api.ErrLimit},
		{x(), 2, api.ErrSort}, {x(), 3, api.ErrSort}, {of(api.FTrue), 1, api.ErrSort}, {of(api.FTrue), 3, api.ErrSort}, {named(api.PSys, "a"), 1, api.ErrSort}, {named(api.PSys, "a"), 2, api.ErrSort}, {rate("x"), 3, api.ErrSort}, {named(api.PRest, "x"), 3, api.ErrSort}, {api.Node{}, 1, api.ErrSort}, {of(14), 1, api.ErrSort}, {of(-5), 2, api.ErrSort}, {of(40), 2, api.ErrSort}, {of(49), 3, api.ErrSort}, {of(63), 3, api.ErrSort}, {of(api.TAdd), 2, api.ErrSort}, {named(api.FTrue, "x"), 1, api.ErrSort},
		{of(api.TAdd), 1, api.ErrForm}, {of(api.TVar), 1, api.ErrForm}, {of(api.TNeg, of(api.FTrue)), 1, api.ErrForm}, {of(api.TNeg, api.Node{}), 1, api.ErrForm}, {of(api.PLoop, rate("x")), 3, api.ErrForm},
		{x(), 1, api.OK}, {of(api.FTrue), 2, api.OK}, {named(api.PSys, "a"), 3, api.OK}, {of(api.TDot), 1, api.OK},
	} {
		if e := tree.Check(c.n, c.sort); e != c.want {
			t.Errorf("%.100s as %d is %d, not %d", show(c.n), c.sort, e, c.want)
		}
	}
}

func TestLimits(t *testing.T) {
	checkAll(t, api.OK, chain(60), sum(4000), of(api.FEq, chain(59), chain(59)))
	checkAll(t, api.ErrLimit, chain(61), sum(4001), of(api.FEq, x(), chain(60)), of(api.FEq, chain(60), x()))
	// all nodes count, wherever they are
	wide := func(op, kids int) api.Node { return of(op, slices.Repeat([]api.Node{{}}, kids)...) }
	checkAll(t, api.ErrForm, wide(api.TDot, 3999), wide(api.PFlow, 3999), of(api.TDot, wide(0, 3998)))
	checkAll(t, api.ErrLimit, wide(api.TDot, 4000), wide(api.PFlow, 4000), of(api.TDot, wide(0, 3999)), of(api.TDot, wide(0, 2000), wide(0, 1998)))
	// a tree that shares its kids is as large as it looks, and one that holds itself has no end
	double := x()
	for range 50 {
		double = of(api.TAdd, double, double)
	}
	ring := []api.Node{{Op: api.TNeg}}
	ring[0].Kids = ring
	star := make([]api.Node, 3)
	for i := range star {
		star[i] = of(api.TVar, star...)
	}
	checkAll(t, api.ErrLimit, double, of(api.TNeg, ring...), of(api.FAnd, star...))
}

// naive is a word-by-word version of Check.
func naive(n api.Node, sort int) api.Errno {
	if sort < term || sort > program {
		return api.ErrRange
	}
	paths := pathsOf(n)
	deepest := slices.MaxFunc(paths, func(a, b []int) int { return len(a) - len(b) })
	if len(paths) > 4000 || len(deepest)+1 > 60 {
		return api.ErrLimit
	}
	if sortOf(n.Op) != sort {
		return api.ErrSort
	}
	for _, path := range paths {
		node := *lookup(&n, path)
		if !wellFormed(node) {
			return api.ErrForm
		}
		bars := barsOf(node.Op)
		for _, below := range pathsOf(node)[1:] {
			if slices.Contains(bars, lookup(&node, below).Op) {
				return api.ErrForm
			}
		}
	}
	return api.OK
}

var nameForm = regexp.MustCompile("^[a-zA-Z][a-zA-Z0-9]{0,11}$")

// wellFormed looks at a node alone, and at the operators of its kids.
func wellFormed(n api.Node) bool {
	if grammar[n.Op] == "" || !matches(n) {
		return false
	}
	isName := nameForm.MatchString(n.Name) && !slices.Contains([]string{"true", "false", "forall", "exists"}, n.Name)
	if hasName(n.Op) && !isName || !hasName(n.Op) && n.Name != "" {
		return false
	}
	if n.Op == api.TNum {
		return natural(n.Num)
	}
	if n.Num.Neg || len(n.Num.Num)+len(n.Num.Den) > 0 {
		return false
	}
	switch n.Op {
	case api.TDiv:
		return n.Kids[1].Op == api.TNum && len(n.Kids[1].Num.Num) > 0
	case api.TPow:
		return n.Kids[1].Op == api.TNum && natural(n.Kids[1].Num) && tree.Compare(n.Kids[1], num(20)) <= 0
	case api.PFlow:
		return rates(n.Kids[:len(n.Kids)-1])
	}
	return true
}

func natural(x api.Rat) bool {
	return !x.Neg && slices.Equal(x.Den, []uint32{1}) && len(x.Num) <= 20 && (len(x.Num) == 0 || x.Num[len(x.Num)-1] > 0)
}

// rates reports whether a list is of PRate nodes with different names, and then a PRest node or none.
func rates(list []api.Node) bool {
	if list[len(list)-1].Op == api.PRest {
		list = list[:len(list)-1]
	}
	for i, n := range list {
		same := func(other api.Node) bool { return other.Name == n.Name }
		if n.Op != api.PRate || slices.ContainsFunc(list[:i], same) {
			return false
		}
	}
	return true
}

// TestCheckRandom compares with the naive version on random trees, good ones and spoiled ones.
func TestCheckRandom(t *testing.T) {
	m := &maker{source: 1}
	count := map[api.Errno]int{}
	for i := range 30000 {
		m.barred = i%3 > 0
		n := m.tree(1+m.upTo(2), 2+m.upTo(4), nil)
		if i%3 == 1 {
			n = m.spoil(n)
		}
		for sort := 1; sort <= 3; sort++ {
			want := naive(n, sort)
			if e := tree.Check(n, sort); e != want {
				t.Fatalf("%s as %d is %d, not %d", show(n), sort, e, want)
			}
			if i%3 == 2 && want != api.OK && sort == sortOf(n.Op) {
				t.Fatalf("%s is %d", show(n), want)
			}
			count[want]++
		}
	}
	if count[api.OK] < 10000 || count[api.ErrForm] < 4000 || count[api.ErrSort] < 10000 {
		t.Errorf("the results are %v", count)
	}
}
