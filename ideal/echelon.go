package ideal

import (
	"slices"

	"isochrone/modular"
)

// echelon has columns modulo a prime that do not depend on each other, in a form in which it is easy to tell which of their multiples have a given sum.
type echelon struct {
	modular.Prime
	// pivots are in the order of their columns.
	pivots []pivot
	// at has, for each place of a column, the number of the pivot that begins there, or -1.
	at []int
}

// pivot is a multiple of what is left of a column without multiples of earlier pivots.
type pivot struct {
	// vector begins with 1, behind zeros.
	vector []uint64
	// scale times the difference of the column and the parts, multiples of earlier pivots, is the vector.
	scale uint64
	parts []uint64
}

func newEchelon(prime modular.Prime, places int) *echelon {
	return &echelon{Prime: prime, at: slices.Repeat([]int{-1}, places)}
}

// add adds a column and reports true, unless the column depends on those that are there.
func (e *echelon) add(column []uint64) bool {
	rest, parts := e.split(column)
	begin := slices.IndexFunc(rest, func(x uint64) bool { return x != 0 })
	if begin < 0 {
		return false
	}
	scale := e.Inverse(rest[begin])
	for i, x := range rest {
		rest[i] = e.Times(scale, x)
	}
	e.at[begin] = len(e.pivots)
	e.pivots = append(e.pivots, pivot{rest, scale, parts})
	return true
}

// split returns the parts of a column in the pivots, and what is left without them: it is zero where pivots begin.
func (e *echelon) split(column []uint64) (rest, parts []uint64) {
	rest, parts = slices.Clone(column), make([]uint64, len(e.pivots))
	for place, k := range e.at {
		if k < 0 || rest[place] == 0 {
			continue
		}
		parts[k] = rest[place]
		e.take(rest[place:], parts[k], e.pivots[k].vector[place:])
	}
	return rest, parts
}

// take subtracts a multiple of a list from another one.
func (e *echelon) take(from []uint64, factor uint64, list []uint64) {
	factor = e.Neg(factor)
	for i, x := range list {
		if x != 0 {
			from[i] = e.Plus(from[i], e.Times(factor, x))
		}
	}
}

// solve returns the factors of the columns whose multiples have the given sum, or false if there are none.
func (e *echelon) solve(sum []uint64) (factors []uint64, ok bool) {
	rest, parts := e.split(sum)
	if slices.ContainsFunc(rest, func(x uint64) bool { return x != 0 }) {
		return nil, false
	}
	// A multiple of a pivot is one of its column and multiples of earlier pivots.
	for k, p := range slices.Backward(e.pivots) {
		parts[k] = e.Times(parts[k], p.scale)
		e.take(parts, parts[k], p.parts)
	}
	return parts, true
}
