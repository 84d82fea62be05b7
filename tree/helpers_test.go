package tree_test

import (
	"maps"
	"slices"
	"strconv"
	"strings"

	"isochrone/api"
)

// The sorts of nodes.
const (
	none     = 0
	term     = 1
	formula  = 2
	program  = 3
	equation = 4
)

// source makes numbers that look random and are the same in every run.
type source uint64

func (s *source) next() uint64 {
	*s = *s*6364136223846793005 + 1442695040888963407
	return uint64(*s>>33) | uint64(*s>>1)&^0x7fffffff
}

// upTo returns a number from 0 to n.
func (s *source) upTo(n int) int {
	return int(s.next() >> 20 % uint64(n+1))
}

func pick[T any](s *source, list []T) T {
	return list[s.upTo(len(list)-1)]
}

// grammar says what a node of an operator has: its sort; # for a number; n for a name; the sorts of its kids, t, f, p or e; ? behind a kid that may be missing, * behind one that may be repeated.
var grammar = map[int]string{
	api.TNum: "t#", api.TVar: "tn", api.TPrime: "tn", api.TNeg: "tt", api.TAdd: "ttt", api.TSub: "ttt", api.TMul: "ttt", api.TDiv: "ttt", api.TPow: "ttt", api.TFun: "tnt?", api.TAny: "tn", api.TDiff: "tt", api.TDot: "t",
	api.FTrue: "f", api.FFalse: "f", api.FEq: "ftt", api.FNe: "ftt", api.FLt: "ftt", api.FLe: "ftt", api.FGt: "ftt", api.FGe: "ftt", api.FNot: "ff", api.FAnd: "fff", api.FOr: "fff", api.FImp: "fff", api.FIff: "fff", api.FAll: "fnf", api.FEx: "fnf", api.FBox: "fpf", api.FDia: "fpf", api.FPred: "fnt?", api.FAny: "fn", api.FDiff: "ff",
	api.PAssign: "pnt", api.PPrime: "pnt", api.PChoose: "pn", api.PTest: "pf", api.PFlow: "pee*f", api.PRate: "ent", api.PRest: "en", api.PSeq: "ppp", api.PAlt: "ppp", api.PLoop: "pp", api.PDual: "pp", api.PSys: "pn", api.PGame: "pn",
}

// operators are all operators, sorted.
var operators = slices.Sorted(maps.Keys(grammar))

// letters are the letters of the sorts in grammar.
const letters = " tfpe"

func sortOf(op int) int {
	if g := grammar[op]; g != "" {
		return strings.IndexByte(letters, g[0])
	}
	return none
}

func hasName(op int) bool {
	return strings.Contains(grammar[op], "n")
}

// words makes a number of words; the denominator is 1.
func words(list ...uint32) api.Rat {
	return api.Rat{Num: list, Den: []uint32{1}}
}

// longest returns a number of so many words.
func longest(count int) api.Rat {
	return words(slices.Repeat([]uint32{0xffffffff}, count)...)
}

func num(n uint32) api.Node {
	if n == 0 {
		return api.Node{Op: api.TNum, Num: words()}
	}
	return api.Node{Op: api.TNum, Num: words(n)}
}

// of returns a node without a name.
func of(op int, kids ...api.Node) api.Node {
	return api.Node{Op: op, Kids: kids}
}

// named returns a node with a name.
func named(op int, name string, kids ...api.Node) api.Node {
	return api.Node{Op: op, Name: name, Kids: kids}
}

// x is the variable x.
func x() api.Node {
	return named(api.TVar, "x")
}

// xPrime is the differential variable x'.
func xPrime() api.Node {
	return named(api.TPrime, "x")
}

// rate is the equation name' = 1.
func rate(name string) api.Node {
	return named(api.PRate, name, num(1))
}

// flow is a differential equation without a domain.
func flow(equations ...api.Node) api.Node {
	return of(api.PFlow, append(equations, of(api.FTrue))...)
}

// simple returns a well-formed node of a sort that may stand everywhere, and has no kids or one.
func simple(sort int) api.Node {
	switch sort {
	case term:
		return num(3)
	case formula:
		return named(api.FAny, "P")
	case program:
		return named(api.PSys, "a")
	}
	return rate("y")
}

// sample returns a well-formed node of an operator with as few kids as it may have.
func sample(op int) api.Node {
	n := api.Node{Op: op}
	if hasName(op) {
		n.Name = "x"
	}
	if op == api.TNum {
		n.Num = words(7)
	}
	kids := strings.ReplaceAll(grammar[op][1:], "e*", "")
	kids = strings.NewReplacer("#", "", "n", "", "t?", "").Replace(kids)
	for _, letter := range []byte(kids) {
		n.Kids = append(n.Kids, simple(strings.IndexByte(letters, letter)))
	}
	if op == api.FDiff {
		n.Kids[0] = of(api.FTrue)
	}
	return n
}

// chain returns a tree of so many levels.
func chain(levels int) api.Node {
	n := x()
	for range levels - 1 {
		n = of(api.TNeg, n)
	}
	return n
}

// sum returns a term of exactly so many nodes: an even number has a sign ahead.
func sum(size int) api.Node {
	if size <= 2 {
		return chain(size)
	}
	if size%2 == 0 {
		return of(api.TNeg, sum(size-1))
	}
	half := (size - 1) / 2
	return of(api.TAdd, sum(half), sum(size-1-half))
}

// show writes a tree for messages.
func show(n api.Node) string {
	out := strconv.Itoa(n.Op)
	if n.Name != "" {
		out += strconv.Quote(n.Name)
	}
	if n.Num.Neg || len(n.Num.Num)+len(n.Num.Den) > 0 {
		out += "#" + strconv.FormatBool(n.Num.Neg)
		for _, list := range [][]uint32{n.Num.Num, n.Num.Den} {
			out += "/"
			for _, word := range list {
				out += strconv.Itoa(int(word)) + "_"
			}
		}
	}
	if len(n.Kids) == 0 {
		return out
	}
	var kids []string
	for _, kid := range n.Kids {
		kids = append(kids, show(kid))
	}
	return out + "(" + strings.Join(kids, " ") + ")"
}

// clone copies a tree.
func clone(n api.Node) api.Node {
	n.Num = api.Rat{Neg: n.Num.Neg, Num: slices.Clone(n.Num.Num), Den: slices.Clone(n.Num.Den)}
	n.Kids = slices.Clone(n.Kids)
	for i, kid := range n.Kids {
		n.Kids[i] = clone(kid)
	}
	return n
}

// pathsOf returns the paths of all nodes in preorder.
func pathsOf(n api.Node) [][]int {
	paths := [][]int{{}}
	for i, kid := range n.Kids {
		for _, path := range pathsOf(kid) {
			paths = append(paths, append([]int{i}, path...))
		}
	}
	return paths
}

// lookup returns the place of the node at a path that does not leave the tree.
func lookup(n *api.Node, path []int) *api.Node {
	for _, i := range path {
		n = &n.Kids[i]
	}
	return n
}

// maker makes trees that are well formed, but for the operators that may not occur at some places.
type maker struct {
	source
	barred bool // whether it leaves them out
}

// tree returns a tree of a sort with at most so many levels.
func (m *maker) tree(sort, levels int, bars []int) api.Node {
	for {
		op := pick(&m.source, operators)
		if sortOf(op) != sort || slices.Contains(bars, op) || levels <= 1 && len(sample(op).Kids) > 0 {
			continue
		}
		return m.node(op, levels, bars)
	}
}

// node returns a node of an operator.
func (m *maker) node(op, levels int, bars []int) api.Node {
	n := sample(op)
	if hasName(op) {
		n.Name = pick(&m.source, []string{"x", "y", "z1", "Abc", "trues", "a1b2c3d4e5f6"})
	}
	if op == api.TNum {
		n.Num = pick(&m.source, []api.Rat{words(), words(1), words(2), words(20), words(0, 1), longest(20)})
	}
	if m.barred {
		bars = append(slices.Clone(bars), barsOf(op)...)
	}
	if strings.Contains(grammar[op], "?") && m.upTo(1) == 1 {
		n.Kids = append(n.Kids, simple(term))
	}
	for i, kid := range n.Kids {
		n.Kids[i] = m.tree(sortOf(kid.Op), levels-1, bars)
	}
	switch op {
	case api.TDiv:
		n.Kids[1] = api.Node{Op: api.TNum, Num: pick(&m.source, []api.Rat{words(1), words(21), longest(20)})}
	case api.TPow:
		n.Kids[1] = num(uint32(m.upTo(20)))
	case api.PFlow:
		n.Kids = append(m.equations(levels-1, bars), n.Kids[1])
	}
	return n
}

// equations returns the equations of a flow.
func (m *maker) equations(levels int, bars []int) []api.Node {
	var list []api.Node
	for _, name := range []string{"x", "y", "zz"} {
		if m.upTo(1) == 1 {
			list = append(list, named(api.PRate, name, m.tree(term, levels, bars)))
		}
	}
	if len(list) == 0 || m.upTo(3) == 0 {
		list = append(list, named(api.PRest, "x"))
	}
	return list
}

// barsOf returns the operators that may not occur inside a node of an operator.
func barsOf(op int) []int {
	switch op {
	case api.TDiff:
		return []int{api.TDiff, api.TPrime}
	case api.PFlow:
		return []int{api.TDiff, api.TPrime, api.FDiff}
	case api.FDiff:
		plain := []int{api.FTrue, api.FFalse, api.FEq, api.FNe, api.FLt, api.FLe, api.FGt, api.FGe, api.FAnd, api.FOr, api.FPred, api.FAny}
		bars := []int{api.TPrime}
		for _, other := range operators {
			if sortOf(other) == formula && !slices.Contains(plain, other) {
				bars = append(bars, other)
			}
		}
		return bars
	}
	return nil
}

// spoil changes one node of a tree: it is often not well formed then.
func (m *maker) spoil(n api.Node) api.Node {
	n = clone(n)
	at := lookup(&n, pick(&m.source, pathsOf(n)))
	switch m.upTo(7) {
	case 0:
		at.Op = m.upTo(70) - 3
	case 1:
		at.Name = pick(&m.source, []string{"", "x", "y", "forall", "x'", "1x", "a1b2c3d4e5f6g"})
	case 2:
		at.Num = pick(&m.source, []api.Rat{{}, words(), words(1), words(20), words(21), longest(20), longest(21), {Neg: true}, words(1, 0), {Num: []uint32{3}, Den: []uint32{2}}})
	case 3:
		at.Kids = append(at.Kids, simple(1+m.upTo(3)))
	case 4:
		at.Kids = at.Kids[:len(at.Kids)-min(1, len(at.Kids))]
	case 5:
		slices.Reverse(at.Kids)
	case 6:
		if len(at.Kids) > 0 {
			at.Kids[m.upTo(len(at.Kids)-1)] = m.tree(1+m.upTo(3), 2, nil)
		}
	case 7:
		if len(at.Kids) > 0 {
			i := m.upTo(len(at.Kids) - 1)
			at.Kids = slices.Insert(at.Kids, i, clone(at.Kids[i]))
		}
	}
	return n
}
