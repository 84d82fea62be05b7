package text

import (
	"strings"

	"isochrone/api"
	"isochrone/rat"
)

// write prints a well-formed node.
func write(out *strings.Builder, n *api.Node) {
	kids := n.Kids
	for _, c := range []byte(layout(n)) {
		switch c {
		case 'N':
			out.WriteString(n.Name)
		case 'K':
			write(out, &kids[0])
			kids = kids[1:]
		default:
			out.WriteByte(c)
		}
	}
}

// layout returns the text of a node with N in the place of its name and K in the place of each kid.
func layout(n *api.Node) string {
	switch n.Op {
	case api.TAdd, api.TSub, api.TMul, api.TDiv, api.TPow, api.FAnd, api.FOr, api.FImp, api.FIff:
		return "(K " + signOf(n.Op) + " K)"
	case api.FEq, api.FNe, api.FLt, api.FLe, api.FGt, api.FGe:
		return "K " + signOf(n.Op) + " K"
	case api.PSeq, api.PAlt:
		return "{K " + signOf(n.Op) + " K}"
	case api.TNum:
		digits, _ := rat.Text(n.Num)
		return digits
	case api.TFun, api.FPred:
		return "N(" + strings.Repeat("K", len(n.Kids)) + ")"
	case api.PFlow:
		return "{" + strings.Repeat("K, ", len(n.Kids)-2) + "K & K}"
	}
	return fixedLayout(n.Op)
}

// fixedLayout returns the layout of the operators that stand between no kids and have a fixed number of them.
func fixedLayout(op int) string {
	switch op {
	case api.TVar, api.PSys:
		return "N"
	case api.TPrime:
		return "N'"
	case api.TNeg:
		return "(-K)"
	case api.TAny, api.FAny:
		return "N{}"
	case api.TDiff:
		return "(K)'"
	case api.TDot:
		return "_"
	case api.FTrue:
		return "true"
	case api.FFalse:
		return "false"
	case api.FNot:
		return "!K"
	case api.FAll:
		return "forall N. K"
	case api.FEx:
		return "exists N. K"
	case api.FBox:
		return "[K]K"
	case api.FDia:
		return "<|K|>K"
	case api.FDiff:
		return "@(K)"
	case api.PAssign:
		return "N := K"
	case api.PPrime:
		return "N' := K"
	case api.PChoose:
		return "N := *"
	case api.PTest:
		return "?K"
	case api.PRate:
		return "N' = K"
	case api.PRest:
		return "N.."
	case api.PLoop:
		return "{K}*"
	case api.PDual:
		return "{K}@"
	case api.PGame:
		return "N!"
	}
	return ""
}

// signOf returns the sign of an operator that stands between its two kids.
func signOf(op int) string {
	switch op {
	case api.TAdd:
		return "+"
	case api.TSub:
		return "-"
	case api.TMul:
		return "*"
	case api.TDiv:
		return "/"
	case api.TPow:
		return "^"
	case api.FEq:
		return "="
	case api.FNe:
		return "!="
	case api.FLt:
		return "<"
	case api.FLe:
		return "<="
	case api.FGt:
		return ">"
	case api.FGe:
		return ">="
	case api.FAnd:
		return "&"
	case api.FOr:
		return "|"
	case api.FImp:
		return "->"
	case api.FIff:
		return "<->"
	case api.PSeq:
		return ";"
	case api.PAlt:
		return "++"
	}
	return ""
}
