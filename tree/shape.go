package tree

import "isochrone/api"

// The sorts of nodes.
const (
	term     = 1
	formula  = 2
	program  = 3
	equation = 4
)

// Sort returns the sort of an operator: 1 for terms, 2 for formulas, 3 for programs, 4 for PRate and PRest, 0 for what is no operator.
func Sort(op int) int {
	return shapeOf(op).sort
}

// shape is what a node of an operator has: its sort, whether it has a name, how many kids it has at least and at most, the sort of the last kid and that of the others.
type shape struct {
	sort         int
	named        bool
	least, most  int
	others, last int
}

// kidSort returns the sort of kid i of count kids.
func (s shape) kidSort(i, count int) int {
	if i < count-1 {
		return s.others
	}
	return s.last
}

// shapeOf returns the shape of an operator, with sort 0 for what is none.
func shapeOf(op int) shape {
	switch op {
	case api.TNum, api.TDot:
		return shape{sort: term}
	case api.TVar, api.TPrime, api.TAny:
		return shape{sort: term, named: true}
	case api.TNeg, api.TDiff:
		return shape{sort: term, least: 1, most: 1, last: term}
	case api.TAdd, api.TSub, api.TMul, api.TDiv, api.TPow:
		return shape{sort: term, least: 2, most: 2, others: term, last: term}
	case api.TFun:
		return shape{sort: term, named: true, most: 1, last: term}
	case api.FTrue, api.FFalse:
		return shape{sort: formula}
	case api.FEq, api.FNe, api.FLt, api.FLe, api.FGt, api.FGe:
		return shape{sort: formula, least: 2, most: 2, others: term, last: term}
	case api.FNot, api.FDiff:
		return shape{sort: formula, least: 1, most: 1, last: formula}
	case api.FAnd, api.FOr, api.FImp, api.FIff:
		return shape{sort: formula, least: 2, most: 2, others: formula, last: formula}
	case api.FAll, api.FEx:
		return shape{sort: formula, named: true, least: 1, most: 1, last: formula}
	case api.FBox, api.FDia:
		return shape{sort: formula, least: 2, most: 2, others: program, last: formula}
	case api.FPred:
		return shape{sort: formula, named: true, most: 1, last: term}
	case api.FAny:
		return shape{sort: formula, named: true}
	case api.PAssign, api.PPrime:
		return shape{sort: program, named: true, least: 1, most: 1, last: term}
	case api.PChoose, api.PSys, api.PGame:
		return shape{sort: program, named: true}
	case api.PTest:
		return shape{sort: program, least: 1, most: 1, last: formula}
	case api.PFlow:
		return shape{sort: program, least: 2, most: api.MaxNodes, others: equation, last: formula}
	case api.PRate:
		return shape{sort: equation, named: true, least: 1, most: 1, last: term}
	case api.PRest:
		return shape{sort: equation, named: true}
	case api.PSeq, api.PAlt:
		return shape{sort: program, least: 2, most: 2, others: program, last: program}
	case api.PLoop, api.PDual:
		return shape{sort: program, least: 1, most: 1, last: program}
	}
	return shape{}
}

// operators is a set of operators: a bit for each.
type operators uint64

func setOf(list ...int) operators {
	var set operators
	for _, op := range list {
		set |= 1 << op
	}
	return set
}

func (s operators) contain(op int) bool {
	return s>>op&1 == 1
}

// barredInside returns the operators that may not occur at any depth inside a node of an operator.
func barredInside(op int) operators {
	switch op {
	case api.TDiff:
		return setOf(api.TPrime, api.TDiff)
	case api.FDiff:
		return setOf(api.TPrime, api.FNot, api.FImp, api.FIff, api.FAll, api.FEx, api.FBox, api.FDia, api.FDiff)
	case api.PFlow:
		return setOf(api.TPrime, api.TDiff, api.FDiff)
	}
	return 0
}
