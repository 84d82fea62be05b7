package square

import (
	"isochrone/api"
	"isochrone/wide"
)

// vector has a number for each variable of a form, and 1 behind them.
type vector [maxFormVars + 1]wide.Num

// negativePoint returns a point at which the form is negative. It needs what diagonalize returned: the variable stop, or n and a form whose last entry is negative.
func (f *form) negativePoint(stop int) []api.Rat {
	var at vector
	at[f.n] = wide.Int(1)
	if stop < f.n {
		f.descend(&at, stop)
	}
	// With the completed squares zero, the value is that of the rest.
	for i := stop - 1; i >= 0; i-- {
		at[i] = f.vertex(at, i)
	}
	point := make([]api.Rat, f.n)
	for i := range point {
		point[i] = at[i].Rat()
	}
	return point
}

// descend chooses numbers for variable i, and for another one if it must, that make the rest of the form from row i on negative.
func (f *form) descend(at *vector, i int) {
	if f.entries[i][i].IsZero() {
		at[f.partner(i)] = wide.Int(1)
	}
	at[i] = wide.Int(1)
	if f.slope(*at, i).Sign() > 0 {
		at[i] = wide.Int(-1)
	}
	for f.rest(*at, i).Sign() >= 0 {
		at[i] = at[i].Add(at[i])
	}
}

// slope returns the sum of the entries of row i behind the pivot, times the numbers there.
func (f *form) slope(at vector, i int) wide.Num {
	var sum wide.Num
	for j := i + 1; j <= f.n; j++ {
		sum = sum.Add(f.entries[i][j].Mul(at[j]))
	}
	return sum
}

// rest returns the value of the form without the rows above row i.
func (f *form) rest(at vector, i int) wide.Num {
	var sum wide.Num
	for j := i; j <= f.n; j++ {
		slope := f.slope(at, j)
		sum = sum.Add(at[j].Mul(f.entries[j][j].Mul(at[j]).Add(slope).Add(slope)))
	}
	return sum
}

// vertex returns the number for variable i with which its square is zero; any number will do if it has none.
func (f *form) vertex(at vector, i int) wide.Num {
	pivot := f.entries[i][i]
	if pivot.IsZero() {
		return wide.Num{}
	}
	return f.slope(at, i).Quo(pivot).Neg()
}
