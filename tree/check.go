package tree

import (
	"slices"

	"isochrone/api"
	"isochrone/rat"
)

// maxNumber is the number of words that a number in a term may have.
const maxNumber = 20

// Name reports whether s is a name.
func Name(s string) bool {
	if len(s) == 0 || len(s) > api.MaxName || isDigit(s[0]) {
		return false
	}
	for _, c := range []byte(s) {
		if !isLetter(c) && !isDigit(c) {
			return false
		}
	}
	return !slices.Contains([]string{"true", "false", "forall", "exists"}, s)
}

func isLetter(c byte) bool {
	return c >= 'a' && c <= 'z' || c >= 'A' && c <= 'Z'
}

func isDigit(c byte) bool {
	return c >= '0' && c <= '9'
}

// Check returns the first of these: ErrRange (sort is not from 1 to 3), ErrLimit (too many nodes or levels), ErrSort (the root is of another sort), ErrForm (the tree is not well formed).
func Check(n api.Node, sort int) api.Errno {
	switch {
	case sort < term || sort > program:
		return api.ErrRange
	case !fits(&n):
		return api.ErrLimit
	case Sort(n.Op) != sort:
		return api.ErrSort
	case !wellFormed(&n, sort, 0):
		return api.ErrForm
	}
	return api.OK
}

// checkRoot returns the error of Check for the root's sort, ErrSort if no tree may have such a root.
func checkRoot(n api.Node) api.Errno {
	sort := Sort(n.Op)
	if sort < term || sort > program {
		return api.ErrSort
	}
	return Check(n, sort)
}

// fits reports whether a tree is within the limits. It looks no further than they reach.
func fits(n *api.Node) bool {
	size := 0
	for path := range nodes(n) {
		size++
		if size > api.MaxNodes || len(path) >= api.MaxNest {
			return false
		}
	}
	return true
}

// wellFormed reports whether a node is well formed as one of a sort, at a place where some operators may not occur.
func wellFormed(n *api.Node, sort int, barred operators) bool {
	has := shapeOf(n.Op)
	if has.sort != sort || barred.contain(n.Op) {
		return false
	}
	if !nameFits(n, has.named) || !numberFits(n) || !kidsFit(n, has) {
		return false
	}
	barred |= barredInside(n.Op)
	for i := range n.Kids {
		if !wellFormed(&n.Kids[i], has.kidSort(i, len(n.Kids)), barred) {
			return false
		}
	}
	return true
}

func nameFits(n *api.Node, named bool) bool {
	if named {
		return Name(n.Name)
	}
	return n.Name == ""
}

func numberFits(n *api.Node) bool {
	if n.Op == api.TNum {
		return !n.Num.Neg && len(n.Num.Num) <= maxNumber && slices.Equal(n.Num.Den, []uint32{1}) && rat.Valid(n.Num)
	}
	return !n.Num.Neg && len(n.Num.Num) == 0 && len(n.Num.Den) == 0
}

// kidsFit reports whether a node has as many kids as it may have, and such ones as its operator wants beside their sorts.
func kidsFit(n *api.Node, has shape) bool {
	if len(n.Kids) < has.least || len(n.Kids) > has.most {
		return false
	}
	switch n.Op {
	case api.TDiv:
		return isDivisor(&n.Kids[1])
	case api.TPow:
		return isExponent(&n.Kids[1])
	case api.PFlow:
		return areEquations(n.Kids[:len(n.Kids)-1])
	}
	return true
}

func isDivisor(n *api.Node) bool {
	return n.Op == api.TNum && len(n.Num.Num) > 0
}

func isExponent(n *api.Node) bool {
	if n.Op != api.TNum || len(n.Num.Num) > 1 {
		return false
	}
	return len(n.Num.Num) == 0 || n.Num.Num[0] <= api.MaxExp
}

// areEquations reports whether a list, of PRate and PRest nodes, has different names in the PRate nodes and no node behind a PRest.
func areEquations(list []api.Node) bool {
	seen := map[string]bool{}
	for i := range list {
		if list[i].Op == api.PRest {
			return i == len(list)-1
		}
		if seen[list[i].Name] {
			return false
		}
		seen[list[i].Name] = true
	}
	return true
}
