package linear

import (
	"slices"

	"isochrone/api"
	"isochrone/wide"
)

// Project returns a system without coefficients of variable i that a point satisfies exactly if some coordinate i makes it satisfy the given system: ErrForm, then ErrBudget, then ErrRange if there is no such variable, then ErrLimit if the numbers are too long.
func Project(n int, lines []api.Line, i int) ([]api.Line, api.Errno) {
	if e := checkBudget(n, lines); e != api.OK {
		return nil, e
	}
	if i < 0 || i >= n {
		return nil, api.ErrRange
	}
	var others []int
	for k := range n {
		if k != i {
			others = append(others, k)
		}
	}
	rows := eliminate(marked(load(lines)), i)
	var projected []api.Line
	for _, r := range needed(rows, others) {
		l, fits := storeLine(r)
		if !fits {
			return nil, api.ErrLimit
		}
		projected = append(projected, l)
	}
	return projected, api.OK
}

// needed leaves out rows that follow from the other ones: first those that are too long, so that they matter only if there is no way around them. The variables are those that may have coefficients.
func needed(rows []row, variables []int) []row {
	var long, short []row
	for _, r := range rows {
		if _, fits := storeLine(r); fits {
			short = append(short, r)
		} else {
			long = append(long, r)
		}
	}
	rows = append(long, short...)
	for k := 0; k < len(rows); {
		others := slices.Concat(rows[:k], rows[k+1:])
		if follows(rows[k], others, variables) {
			rows = others
		} else {
			k++
		}
	}
	return rows
}

// follows reports whether all points that satisfy the rows satisfy r.
func follows(r row, rows []row, variables []int) bool {
	for _, c := range denials(r) {
		if !isEmpty(append(rows[:len(rows):len(rows)], c), variables) {
			return false
		}
	}
	return true
}

// denials returns rows such that a point that does not satisfy r satisfies one of them, and no other point does.
func denials(r row) []row {
	above := row{nums: r.times(wide.Int(-1)).nums, rel: less}
	switch r.rel {
	case equal:
		return []row{{nums: r.nums, rel: less}, above}
	case less:
		above.rel = atMost
	}
	return []row{above}
}

// isEmpty reports whether no point satisfies the rows.
func isEmpty(rows []row, variables []int) bool {
	rows = primitive(marked(rows))
	n := len(rows[0].nums) - 1
	if len(variables) > 0 {
		last := len(variables) - 1
		for _, i := range variables[:last] {
			rows = primitive(eliminate(rows, i))
		}
		if spanOf(rows, make([]wide.Num, n), variables[last]).isEmpty() {
			return true
		}
	}
	return slices.ContainsFunc(rows, func(r row) bool { return r.isFalse(n) })
}

// storeLine returns the line of a row in which all numbers are short enough, if one is found: with integers, or else with the numbers as they are.
func storeLine(r row) (l api.Line, fits bool) {
	for _, scaled := range []func() row{r.primitive, func() row { return r }} {
		s := scaled()
		if !slices.ContainsFunc(s.nums, isLong) {
			numbers := store(s.nums)
			return api.Line{Coefs: numbers[1:], Rel: r.rel, Const: numbers[0]}, true
		}
	}
	return api.Line{}, false
}

func isLong(x wide.Num) bool {
	return !x.Fits(maxLineWords)
}
