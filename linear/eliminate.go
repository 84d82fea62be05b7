package linear

import (
	"cmp"
	"math/bits"
	"slices"
)

// ladder returns the given rows as rung 0, and on rung k what follows from them for the variables from k to n-1: a point satisfies rung k exactly if some numbers for the variables below k make it satisfy the given rows.
func ladder(given []row, n int) [][]row {
	rungs := [][]row{primitive(marked(given))}
	for i := range n {
		rungs = append(rungs, primitive(eliminate(rungs[i], i)))
	}
	return rungs
}

// eliminate returns rows without a coefficient of variable i that a point satisfies exactly if some number for the variable makes it satisfy the given ones.
//
// A row that is no equation is a sum of multiples of some given lines, and perhaps of equations. Only such sums are needed from which no line can be left out: every other one is a sum of these, and so holds where they hold. Up to its size, there is one such sum of each set of lines.
func eliminate(rows []row, i int) []row {
	for k, r := range rows {
		if r.rel == equal && !r.coef(i).IsZero() {
			return substituted(slices.Concat(rows[:k], rows[k+1:]), r, i)
		}
	}
	return paired(rows, i)
}

// substituted adds multiples of an equation to the rows, so that variable i has no coefficient in them.
func substituted(rows []row, equation row, i int) []row {
	others := make([]row, len(rows))
	for k, r := range rows {
		others[k] = r
		if !r.coef(i).IsZero() {
			others[k] = joined(r, equation, i)
		}
	}
	return others
}

// offer is a row that can be made: the lines that it needs, and the function that makes it.
type offer struct {
	lines uint64
	build func() row
}

// paired adds each row that bounds variable i from above to each one that bounds it from below. It needs rows among which no equation has a coefficient of the variable.
func paired(rows []row, i int) []row {
	var equations, uppers, lowers []row
	var offers []offer
	for _, r := range rows {
		switch sign := r.coef(i).Sign(); {
		case sign > 0:
			uppers = append(uppers, r)
		case sign < 0:
			lowers = append(lowers, r)
		case r.rel == equal:
			equations = append(equations, r)
		default:
			offers = append(offers, offer{r.lines, func() row { return r }})
		}
	}
	for _, r := range uppers {
		for _, s := range lowers {
			offers = append(offers, offer{r.lines | s.lines, func() row { return joined(r, s, i) }})
		}
	}
	made := equations
	for _, o := range least(offers) {
		made = append(made, o.build())
	}
	return made
}

// least returns the offers whose lines do not contain those of another one, and of some with the same lines the first one.
func least(offers []offer) []offer {
	offers = slices.Clone(offers)
	slices.SortStableFunc(offers, func(a, b offer) int {
		return cmp.Compare(bits.OnesCount64(a.lines), bits.OnesCount64(b.lines))
	})
	var chosen []offer
	for _, o := range offers {
		contains := func(c offer) bool { return c.lines&^o.lines == 0 }
		if !slices.ContainsFunc(chosen, contains) {
			chosen = append(chosen, o)
		}
	}
	return chosen
}
