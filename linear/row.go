package linear

import (
	"isochrone/api"
	"isochrone/wide"
)

// row is a line that follows from given lines. Its numbers are a row of a matrix: the constant, then the coefficients, then, if a certificate is wanted, the multipliers of the given lines whose sum it is.
type row struct {
	nums []wide.Num
	rel  int
	// lines has a bit for each given line with Rel 1 or 2 that has a part in the sum.
	lines uint64
}

func (r row) bound() wide.Num {
	return r.nums[0]
}

// coef returns the coefficient of variable i.
func (r row) coef(i int) wide.Num {
	return r.nums[1+i]
}

// multipliers returns the multipliers of a row in n variables.
func (r row) multipliers(n int) []wide.Num {
	return r.nums[1+n:]
}

// load returns the rows of a valid system, without multipliers.
func load(lines []api.Line) []row {
	rows := make([]row, len(lines))
	for k, l := range lines {
		nums := []wide.Num{wide.Of(l.Const)}
		for _, c := range l.Coefs {
			nums = append(nums, wide.Of(c))
		}
		rows[k] = row{nums: nums, rel: l.Rel}
	}
	return rows
}

// certified returns the rows with multipliers: each one is itself, once.
func certified(rows []row) []row {
	matrix := make([]row, len(rows))
	for k, r := range rows {
		multipliers := make([]wide.Num, len(rows))
		multipliers[k] = wide.Int(1)
		matrix[k] = row{append(r.nums[:len(r.nums):len(r.nums)], multipliers...), r.rel, r.lines}
	}
	return matrix
}

// marked returns the rows as given ones, from which others are made: each one has a part in itself alone.
func marked(rows []row) []row {
	given := make([]row, len(rows))
	for k, r := range rows {
		given[k] = row{r.nums, r.rel, 0}
		if r.rel != equal {
			given[k].lines = 1 << k
		}
	}
	return given
}

// primitive returns the rows as lists of integers without a common factor: there is only one such multiple, so that numbers grow no longer than they must.
func primitive(rows []row) []row {
	short := make([]row, len(rows))
	for k, r := range rows {
		short[k] = r.primitive()
	}
	return short
}

func (r row) primitive() row {
	nums, _ := wide.Whole(r.nums)
	return row{nums, r.rel, r.lines}
}

// times returns a multiple of the row by a number that is positive, or not zero if the row is an equation.
func (r row) times(c wide.Num) row {
	nums := make([]wide.Num, len(r.nums))
	for i, x := range r.nums {
		nums[i] = x.Mul(c)
	}
	return row{nums, r.rel, r.lines}
}

// combined returns the sum of two rows, or of multiples of them, whose numbers the function adds. The multiples need to be as those of method times.
func combined(r, s row, add func(x, y wide.Num) wide.Num) row {
	nums := make([]wide.Num, len(r.nums))
	for i := range nums {
		nums[i] = add(r.nums[i], s.nums[i])
	}
	return row{nums, max(r.rel, s.rel), r.lines | s.lines}
}

// joined returns the sum of multiples of r and s in which variable i has no coefficient. It needs a row s that has one. The multiple of r is a positive one, and that of s is, too, if the coefficients have opposite signs; otherwise s needs to be an equation.
func joined(r, s row, i int) row {
	a, b := s.coef(i).Abs(), r.coef(i)
	if s.coef(i).Sign() > 0 {
		b = b.Neg()
	}
	return combined(r, s, func(x, y wide.Num) wide.Num { return x.Mul(a).Add(y.Mul(b)) })
}

// isFalse reports whether the row, in n variables, has no coefficients and does not hold.
func (r row) isFalse(n int) bool {
	for i := range n {
		if !r.coef(i).IsZero() {
			return false
		}
	}
	return !satisfies(-r.bound().Sign(), r.rel)
}
