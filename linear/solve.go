package linear

import (
	"isochrone/api"
	"isochrone/wide"
)

// Solve returns a point that satisfies the system, or else a refutation: ErrForm, then ErrBudget. The point has short numbers where the system leaves a choice.
func Solve(n int, lines []api.Line) (point []api.Rat, refutation []api.Rat, e api.Errno) {
	if e := checkBudget(n, lines); e != api.OK {
		return nil, nil, e
	}
	given := load(lines)
	rungs := ladder(certified(given), n)
	for _, r := range rungs[n] {
		if r.isFalse(n) {
			return nil, store(refutationFrom(r, given, n)), api.OK
		}
	}
	return store(pointOn(rungs)), nil, api.OK
}

// pointOn chooses a number for the last variable, then for the one before, and so on. It needs the rungs of a system that can be satisfied.
func pointOn(rungs [][]row) []wide.Num {
	point := make([]wide.Num, len(rungs)-1)
	for i := len(point) - 1; i >= 0; i-- {
		point[i] = spanOf(rungs[i], point, i).simplest()
	}
	return point
}

// refutationFrom returns the multipliers of a row that does not hold, in a size in which they are short enough.
//
// The lines with a part in the row depend on each other in one way alone, since none of them can be left out. So each multiplier may be the determinant of the coefficients of all other ones among these lines, in columns in which these are independent. There are at most 3 others: such a determinant has a denominator of at most 9 times maxLineWords words, and a numerator of one word more.
func refutationFrom(r row, given []row, n int) []wide.Num {
	multipliers := r.multipliers(n)
	var parts []int
	for k, x := range multipliers {
		if !x.IsZero() {
			parts = append(parts, k)
		}
	}
	others := make([]row, 0, n)
	for _, k := range parts[1:] {
		others = append(others, given[k])
	}
	factor := determinant(others, n).Quo(multipliers[parts[0]]).Abs()
	if r.rel == equal && r.bound().Sign() > 0 {
		factor = factor.Neg()
	}
	return row{nums: multipliers}.times(factor).nums
}

// determinant returns a determinant, up to its sign, of independent rows in as many columns: by Gauss's method, the product of the pivots.
func determinant(rows []row, n int) wide.Num {
	product := wide.Int(1)
	for len(rows) > 0 {
		pivot := 0
		for pivot < n-1 && rows[0].coef(pivot).IsZero() {
			pivot++
		}
		product = product.Mul(rows[0].coef(pivot))
		rows = reduced(rows[1:], rows[0], pivot)
	}
	return product
}

// reduced subtracts multiples of the pivot's row from the rows, so that they have nothing in its column.
func reduced(rows []row, pivot row, i int) []row {
	others := make([]row, len(rows))
	for k, r := range rows {
		factor := r.coef(i).Quo(pivot.coef(i))
		others[k] = combined(r, pivot, func(x, y wide.Num) wide.Num { return x.Add(y.Mul(factor).Neg()) })
	}
	return others
}

func store(numbers []wide.Num) []api.Rat {
	list := make([]api.Rat, len(numbers))
	for i, x := range numbers {
		list[i] = x.Rat()
	}
	return list
}
