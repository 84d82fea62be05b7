package text_test

import (
	"strings"

	"isochrone/api"
	"isochrone/rat"
	"isochrone/tree"
)

// writer writes trees with as few brackets as the grammar needs, and now and then with more.
type writer struct {
	source
	spare bool // whether it writes more
}

// level returns the number of the first rule of the grammar, from the loosest one on, that reads a node of its sort without brackets.
func level(n api.Node) int {
	switch n.Op {
	case api.TAdd, api.TSub, api.FIff, api.PAlt:
		return 1
	case api.TMul, api.TDiv, api.FImp, api.PSeq:
		return 2
	case api.TNeg, api.TPow, api.FOr:
		return 3
	case api.FAnd:
		return 4
	case api.FNot, api.FAll, api.FEx, api.FBox, api.FDia:
		return 5
	}
	return 6
}

// joins are the operators between two kids, with their signs and the levels of both kids.
var joins = map[int]struct {
	sign        string
	left, right int
}{
	api.TAdd: {"+", 1, 2}, api.TSub: {"-", 1, 2}, api.TMul: {"*", 2, 3}, api.TDiv: {"/", 2, 3},
	api.FEq: {"=", 1, 1}, api.FNe: {"!=", 1, 1}, api.FLt: {"<", 1, 1}, api.FLe: {"<=", 1, 1}, api.FGt: {">", 1, 1}, api.FGe: {">=", 1, 1},
	api.FAnd: {"&", 4, 5}, api.FOr: {"|", 3, 4}, api.FImp: {"->", 3, 2}, api.FIff: {"<->", 2, 1},
	api.PSeq: {";", 2, 3}, api.PAlt: {"++", 1, 2},
}

// text writes a tree where a rule of some level reads it.
func (w *writer) text(n api.Node, least int) string {
	plain := w.plain(n)
	if level(n) >= least && !(w.spare && w.upTo(4) == 0) {
		return plain
	}
	if tree.Sort(n.Op) == program {
		return "{" + plain + "}"
	}
	return "(" + plain + ")"
}

// plain writes a tree without brackets around it.
func (w *writer) plain(n api.Node) string {
	if j, found := joins[n.Op]; found {
		left, right := w.text(n.Kids[0], j.left), w.text(n.Kids[1], j.right)
		return left + " " + j.sign + " " + right
	}
	kid := func(i, least int) string { return w.text(n.Kids[i], least) }
	switch n.Op {
	case api.TNum:
		digits, _ := rat.Text(n.Num)
		return digits
	case api.TPow:
		return kid(0, 6) + " ^ " + w.plain(n.Kids[1])
	case api.TFun, api.FPred:
		if len(n.Kids) == 0 {
			return n.Name + "()"
		}
		return n.Name + "(" + kid(0, 1) + ")"
	case api.TNeg:
		return "-" + kid(0, 3)
	case api.TDiff:
		return "(" + kid(0, 1) + ")'"
	case api.FNot:
		return "!" + kid(0, 5)
	case api.FAll:
		return "forall " + n.Name + "." + kid(0, 5)
	case api.FEx:
		return "exists " + n.Name + "." + kid(0, 5)
	case api.FBox:
		return "[" + kid(0, 1) + "]" + kid(1, 5)
	case api.FDia:
		return "<|" + kid(0, 1) + "|>" + kid(1, 5)
	case api.FDiff:
		return "@(" + kid(0, 1) + ")"
	case api.PTest:
		return "?" + kid(0, 1)
	case api.PAssign:
		return n.Name + ":=" + kid(0, 1)
	case api.PPrime:
		return n.Name + "' :=" + kid(0, 1)
	case api.PLoop:
		return "{" + kid(0, 1) + "}*"
	case api.PDual:
		return "{" + kid(0, 1) + "}@"
	case api.PFlow:
		return w.flow(n)
	}
	return n.Name + map[int]string{api.TPrime: "'", api.TAny: "{}", api.FAny: "{}", api.TDot: "_", api.FTrue: "true", api.FFalse: "false", api.PChoose: ":=*", api.PGame: "!"}[n.Op]
}

func (w *writer) flow(n api.Node) string {
	var equations []string
	for _, kid := range n.Kids[:len(n.Kids)-1] {
		if kid.Op == api.PRest {
			equations = append(equations, kid.Name+"..")
		} else {
			equations = append(equations, kid.Name+"'="+w.text(kid.Kids[0], 1))
		}
	}
	return "{" + strings.Join(equations, ",") + "&" + w.text(n.Kids[len(n.Kids)-1], 1) + "}"
}
