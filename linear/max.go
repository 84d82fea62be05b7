package linear

import (
	"isochrone/api"
	"isochrone/wide"
)

// The kinds of Max.
const (
	noPoint    = 0
	noBound    = 1
	reached    = 2
	notReached = 3
)

// Max returns the least upper bound of the sum of coefs times coordinates, and of which kind it is: ErrForm, then ErrBudget, then ErrRange if coefs does not have a number for each variable.
func Max(n int, lines []api.Line, coefs []api.Rat) (kind int, sup api.Rat, e api.Errno) {
	if e := checkBudget(n, lines); e != api.OK {
		return 0, api.Rat{}, e
	}
	if !areNumbers(coefs, n) {
		return 0, api.Rat{}, api.ErrRange
	}
	kind, value := most(load(lines), coefs)
	return kind, value.Rat(), api.OK
}

// most adds a variable that is at most the sum, behind all others, and finds what the rows say of it alone.
func most(rows []row, coefs []api.Rat) (kind int, sup wide.Num) {
	n := len(coefs)
	for k, r := range rows {
		rows[k].nums = append(r.nums, wide.Num{})
	}
	sum := row{nums: []wide.Num{{}}, rel: atMost}
	for _, c := range coefs {
		sum.nums = append(sum.nums, wide.Of(c).Neg())
	}
	sum.nums = append(sum.nums, wide.Int(1))
	last := ladder(append(rows, sum), n)[n]
	for _, r := range last {
		if r.isFalse(n + 1) {
			return noPoint, wide.Num{}
		}
	}
	upper := spanOf(last, make([]wide.Num, n), n).upper
	switch {
	case !upper.isEnd:
		return noBound, wide.Num{}
	case upper.isOpen:
		return notReached, upper.at
	}
	return reached, upper.at
}
