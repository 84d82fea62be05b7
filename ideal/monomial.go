package ideal

import (
	"cmp"
	"slices"

	"isochrone/api"
)

// exponents is a monomial: the exponent of each variable. It does not change once it is made, so that polynomials may share it.
type exponents []int

// lexical compares by the order of api.Poly, which is that of reduced bases.
func (a exponents) lexical(b exponents) int {
	return slices.Compare(a, b)
}

// graded compares by the degree first; of the same degree, the one with less of the last variables is greater. Bases by this order are the easiest ones to find.
func (a exponents) graded(b exponents) int {
	if way := cmp.Compare(a.degree(), b.degree()); way != 0 {
		return way
	}
	for i, k := range slices.Backward(a) {
		if k != b[i] {
			return cmp.Compare(b[i], k)
		}
	}
	return 0
}

func (a exponents) degree() int {
	total := 0
	for _, k := range a {
		total += k
	}
	return total
}

// divides reports whether no exponent of a is greater than that of b.
func (a exponents) divides(b exponents) bool {
	for i, k := range a {
		if k > b[i] {
			return false
		}
	}
	return true
}

// isApart reports whether a and b have no variable in common.
func (a exponents) isApart(b exponents) bool {
	for i, k := range a {
		if k > 0 && b[i] > 0 {
			return false
		}
	}
	return true
}

// with returns the monomial whose exponents a function makes of those of a and b.
func (a exponents) with(b exponents, join func(x, y int) int) exponents {
	c := make(exponents, len(a))
	for i := range c {
		c[i] = join(a[i], b[i])
	}
	return c
}

func (a exponents) times(b exponents) exponents {
	return a.with(b, func(x, y int) int { return x + y })
}

// over returns a / b. It needs a monomial b that divides a.
func (a exponents) over(b exponents) exponents {
	return a.with(b, func(x, y int) int { return x - y })
}

// multiple returns the least common multiple of a and b.
func (a exponents) multiple(b exponents) exponents {
	return a.with(b, func(x, y int) int { return max(x, y) })
}

// key returns the exponents as a key of a map.
func (a exponents) key() [api.MaxVars]int {
	var k [api.MaxVars]int
	copy(k[:], a)
	return k
}

// monomials returns the monomials in n variables of the given degree.
func monomials(n, degree int) []exponents {
	if n == 0 {
		if degree == 0 {
			return []exponents{{}}
		}
		return nil
	}
	var list []exponents
	for last := range degree + 1 {
		for _, m := range monomials(n-1, degree-last) {
			list = append(list, append(m, last))
		}
	}
	return list
}
