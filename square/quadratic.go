package square

import (
	"isochrone/api"
	"isochrone/poly"
	"isochrone/wide"
)

// The budget of Quadratic.
const (
	maxFormVars  = 4
	maxFormWords = 2
)

// form is a polynomial of degree at most 2 in n variables: a symmetric matrix, of which only the diagonal and the half above it are used. The polynomial is the sum of all entries times the variables of their row and column, where row and column n stand for the constant 1.
type form struct {
	n       int
	entries [maxFormVars + 1][maxFormVars + 1]wide.Num
}

// Quadratic returns squares whose polynomial is p, or else a point at which p is negative: ErrForm, then ErrBudget.
func Quadratic(p api.Poly) (squares []api.Square, point []api.Rat, e api.Errno) {
	if !poly.Valid(p) {
		return nil, nil, api.ErrForm
	}
	if !isQuadratic(p) {
		return nil, nil, api.ErrBudget
	}
	f := formOf(p)
	stop := f.diagonalize()
	if stop < f.n || f.last().Sign() < 0 {
		return nil, f.negativePoint(stop), api.OK
	}
	squares = f.squares()
	if f.last().Sign() > 0 {
		squares = append(squares, api.Square{Weight: f.last().Rat(), Poly: constant(f.n, wide.Int(1))})
	}
	return squares, nil, api.OK
}

// isQuadratic reports whether a valid polynomial is within the budget.
func isQuadratic(p api.Poly) bool {
	degree, _ := poly.Degree(p)
	if degree > 2 || p.N > maxFormVars {
		return false
	}
	for _, m := range p.Terms {
		if !isShort(m.Coef, maxFormWords) {
			return false
		}
	}
	return true
}

// formOf needs a polynomial within the budget.
func formOf(p api.Poly) *form {
	f := &form{n: p.N}
	for _, m := range p.Terms {
		i, j := factors(m.Exps)
		f.entries[i][j] = wide.Of(m.Coef)
		if i != j {
			f.entries[i][j] = f.entries[i][j].Quo(wide.Int(2))
		}
	}
	return f
}

// factors returns the two variables, in order, whose product a monomial of degree at most 2 is. The number behind the last variable stands for 1.
func factors(exps []int) (i, j int) {
	i, j = len(exps), len(exps)
	for k, times := range exps {
		for range times {
			i, j = j, k
		}
	}
	return min(i, j), max(i, j)
}

// diagonalize completes squares in one variable after the other, so that the polynomial is the sum of squares and of the last entry. It returns the number of variables; or, if that is not possible, the first variable along which the rest of the form, from its row on, becomes negative.
func (f *form) diagonalize() (stop int) {
	for i := range f.n {
		switch pivot := f.entries[i][i]; {
		case pivot.Sign() > 0:
			f.eliminate(i)
		case pivot.Sign() < 0 || f.partner(i) <= f.n:
			return i
		}
	}
	return f.n
}

// eliminate subtracts the square of row i, which needs a positive pivot, from the rows below it.
func (f *form) eliminate(i int) {
	row := f.entries[i]
	for j := i + 1; j <= f.n; j++ {
		factor := row[j].Quo(row[i]).Neg()
		for k := j; k <= f.n; k++ {
			f.entries[j][k] = f.entries[j][k].Add(factor.Mul(row[k]))
		}
	}
}

// last returns the entry that stands for a constant.
func (f *form) last() wide.Num {
	return f.entries[f.n][f.n]
}

// partner returns the last place behind the pivot where row i has an entry that is not zero, or a number above n if there is none.
func (f *form) partner(i int) int {
	for j := f.n; j > i; j-- {
		if !f.entries[i][j].IsZero() {
			return j
		}
	}
	return f.n + 1
}

// squares returns the squares of the rows of a diagonalized form.
func (f *form) squares() []api.Square {
	var squares []api.Square
	for i := range f.n {
		pivot := f.entries[i][i]
		if pivot.IsZero() {
			continue
		}
		p := api.Poly{N: f.n}
		for j := i; j <= f.n; j++ {
			if c := f.entries[i][j].Quo(pivot); !c.IsZero() {
				p.Terms = append(p.Terms, api.Mono{Exps: f.variable(j), Coef: c.Rat()})
			}
		}
		squares = append(squares, api.Square{Weight: pivot.Rat(), Poly: p})
	}
	return squares
}

// variable returns the exponents of variable i, or of the constant.
func (f *form) variable(i int) []int {
	exps := make([]int, f.n)
	if i < f.n {
		exps[i] = 1
	}
	return exps
}
