package text_test

import (
	"slices"
	"strings"
	"testing"

	"isochrone/api"
	"isochrone/rat"
	"isochrone/text"
	"isochrone/tree"
)

// The sorts of trees.
const (
	term    = 1
	formula = 2
	program = 3
)

// source makes numbers that look random and are the same in every run.
type source uint64

func (s *source) next() uint64 {
	*s = *s*6364136223846793005 + 1442695040888963407
	return uint64(*s >> 33)
}

// upTo returns a number from 0 to n.
func (s *source) upTo(n int) int {
	return int(s.next() % uint64(n+1))
}

func pick[T any](s *source, list []T) T {
	return list[s.upTo(len(list)-1)]
}

func num(n int64) api.Node {
	return api.Node{Op: api.TNum, Num: rat.From(n)}
}

// digits returns a number that may be long.
func digits(t *testing.T, s string) api.Node {
	t.Helper()
	value, e := rat.Parse(s)
	if e != api.OK {
		t.Fatalf("%s is %d", s, e)
	}
	return api.Node{Op: api.TNum, Num: value}
}

// of returns a node without a name.
func of(op int, kids ...api.Node) api.Node {
	return api.Node{Op: op, Kids: kids}
}

// named returns a node with a name.
func named(op int, name string, kids ...api.Node) api.Node {
	return api.Node{Op: op, Name: name, Kids: kids}
}

// v is a variable.
func v(name string) api.Node {
	return named(api.TVar, name)
}

// checkParse checks the tree of a text.
func checkParse(t *testing.T, s string, sort int, want api.Node) {
	t.Helper()
	if n, at, e := text.Parse(s, sort); !tree.Equal(n, want) || at != 0 || e != api.OK {
		t.Errorf("%.200q as %d is %v, %d, %d, not %v", s, sort, n, at, e, want)
	}
}

// checkError checks the error of a text and its offset.
func checkError(t *testing.T, s string, sort, at int, want api.Errno) {
	t.Helper()
	n, gotAt, e := text.Parse(s, sort)
	if e != want || gotAt != at || !tree.Equal(n, api.Node{}) {
		t.Errorf("%.300q as %d is %d at %d, not %d at %d (%v)", s, sort, e, gotAt, want, at, n)
	}
	if printed, cleanError := text.Clean(s, sort); cleanError != want || printed != "" {
		t.Errorf("Clean of %.300q as %d is %.100q, %d, not %d", s, sort, printed, cleanError, want)
	}
}

// checkClean checks what texts are printed as.
func checkClean(t *testing.T, sort int, cases [][2]string) {
	t.Helper()
	for _, c := range cases {
		if got, e := text.Clean(c[0], sort); got != c[1] || e != api.OK {
			t.Errorf("%q as %d is printed as %q, %d, not %q", c[0], sort, got, e, c[1])
		}
	}
}

// mark stands in texts at the place of an error. It is no part of them.
const mark = "~"

// checkMarked checks that texts are syntax errors where the mark stands.
func checkMarked(t *testing.T, sort int, marked ...string) {
	t.Helper()
	for _, s := range marked {
		if strings.Count(s, mark) != 1 {
			t.Errorf("%q has not one mark", s)
		}
		checkError(t, strings.ReplaceAll(s, mark, ""), sort, strings.Index(s, mark), api.ErrSyntax)
	}
}

// checkErrors checks that texts have an error that has no offset.
func checkErrors(t *testing.T, sort int, want api.Errno, texts ...string) {
	t.Helper()
	for _, s := range texts {
		checkError(t, s, sort, 0, want)
	}
}

// kind is an operator, with the sorts of its kids: t, f or p, e for equations and a domain, # for a natural number; ? stands behind a kid that may be missing.
type kind struct {
	op    int
	named bool
	kids  string
}

// kinds are the operators of the sorts.
var kinds = [][]kind{
	term: {{api.TNum, false, ""}, {api.TVar, true, ""}, {api.TPrime, true, ""}, {api.TNeg, false, "t"}, {api.TAdd, false, "tt"}, {api.TSub, false, "tt"}, {api.TMul, false, "tt"}, {api.TDiv, false, "t#"}, {api.TPow, false, "t#"}, {api.TFun, true, "t?"}, {api.TAny, true, ""}, {api.TDiff, false, "t"}, {api.TDot, false, ""}},
	formula: {{api.FTrue, false, ""}, {api.FFalse, false, ""}, {api.FEq, false, "tt"}, {api.FNe, false, "tt"}, {api.FLt, false, "tt"}, {api.FLe, false, "tt"}, {api.FGt, false, "tt"}, {api.FGe, false, "tt"}, {api.FNot, false, "f"}, {api.FAnd, false, "ff"}, {api.FOr, false, "ff"}, {api.FImp, false, "ff"}, {api.FIff, false, "ff"},
		{api.FAll, true, "f"}, {api.FEx, true, "f"}, {api.FBox, false, "pf"}, {api.FDia, false, "pf"}, {api.FPred, true, "t?"}, {api.FAny, true, ""}, {api.FDiff, false, "f"}},
	program: {{api.PAssign, true, "t"}, {api.PPrime, true, "t"}, {api.PChoose, true, ""}, {api.PTest, false, "f"}, {api.PFlow, false, "e"}, {api.PSeq, false, "pp"}, {api.PAlt, false, "pp"}, {api.PLoop, false, "p"}, {api.PDual, false, "p"}, {api.PSys, true, ""}, {api.PGame, true, ""}},
}

// wellFormed returns a tree with at most so many levels.
func (s *source) wellFormed(sort, levels int) api.Node {
	for {
		n := s.tree(sort, levels)
		if tree.Check(n, sort) == api.OK {
			return n
		}
	}
}

// tree returns a tree that is well formed, but for the operators that may not occur inside differentials and flows.
func (s *source) tree(sort, levels int) api.Node {
	for {
		k := pick(s, kinds[sort])
		if levels > 1 || k.kids == "" {
			return s.node(k, levels)
		}
	}
}

func (s *source) node(k kind, levels int) api.Node {
	n := api.Node{Op: k.op}
	if k.named {
		n.Name = pick(s, []string{"x", "y", "z1", "Abc", "trues", "e", "a1b2c3d4e5f6"})
	}
	if k.op == api.TNum {
		n.Num = rat.From(int64(pick(s, []int{0, 1, 20, 1 << 40})))
	}
	kids := k.kids
	if strings.HasSuffix(kids, "?") {
		kids = kids[:s.upTo(1)]
	}
	for _, letter := range []byte(kids) {
		switch letter {
		case '#':
			n.Kids = append(n.Kids, num(int64(1+s.upTo(19))))
		case 'e':
			n.Kids = append(s.equations(levels-1), s.tree(formula, levels-1))
		default:
			n.Kids = append(n.Kids, s.tree(1+strings.IndexByte("tfp", letter), levels-1))
		}
	}
	return n
}

// equations returns the equations of a flow.
func (s *source) equations(levels int) []api.Node {
	var list []api.Node
	for _, name := range []string{"x", "y", "zz"} {
		if s.upTo(1) == 1 {
			list = append(list, named(api.PRate, name, s.tree(term, levels)))
		}
	}
	if len(list) == 0 || s.upTo(2) == 0 {
		list = append(list, named(api.PRest, "c"))
	}
	return list
}

// count counts the operators of a tree.
func count(n api.Node, seen map[int]int) {
	seen[n.Op]++
	for _, kid := range n.Kids {
		count(kid, seen)
	}
}

// clone copies a tree.
func clone(n api.Node) api.Node {
	n.Num = api.Rat{Neg: n.Num.Neg, Num: slices.Clone(n.Num.Num), Den: slices.Clone(n.Num.Den)}
	n.Kids = slices.Clone(n.Kids)
	for i, kid := range n.Kids {
		n.Kids[i] = clone(kid)
	}
	return n
}
