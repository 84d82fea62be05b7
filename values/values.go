// Package values has values of polynomials at points, without a limit. It is no layer.
package values

import (
	"slices"

	"isochrone/api"
	"isochrone/wide"
)

// At returns the value of a valid polynomial at a point that has a valid number for each variable.
func At(p api.Poly, at []api.Rat) wide.Num {
	point := pointOf(p, at)
	value := scaled(p, point)
	for _, c := range point {
		for range c.degree() {
			value = value.Quo(c.denominator())
		}
	}
	return value
}

// Sign returns the sign of the value. If there are many long numbers, it mostly sees it from their leading digits, which is far less work.
func Sign(p api.Poly, at []api.Rat) int {
	if countWords(p, at) > fewWords {
		if sign := roughSign(p, at); sign != 0 {
			return sign
		}
	}
	return scaled(p, pointOf(p, at)).Sign()
}

// fewWords is a number of words up to which it is quicker to compute with all digits.
const fewWords = 300

// countWords returns the number of words of all coefficients and of the highest powers of the coordinates.
func countWords(p api.Poly, at []api.Rat) int {
	count := 0
	for _, m := range p.Terms {
		count += len(m.Coef.Num) + len(m.Coef.Den)
	}
	for i, x := range at {
		count += degreeIn(p, i) * (len(x.Num) + len(x.Den))
	}
	return count
}

// coordinate is a coordinate x = a/b of a point: the powers of a and of b, from power 0 to the degree that a polynomial has in its variable, or to power 0 if it is zero.
type coordinate struct {
	above, below []wide.Num
}

func (c coordinate) degree() int {
	return len(c.above) - 1
}

// denominator returns b. It needs a degree above 0.
func (c coordinate) denominator() wide.Num {
	return c.below[1]
}

func pointOf(p api.Poly, at []api.Rat) []coordinate {
	point := make([]coordinate, len(at))
	for i, x := range at {
		a, degree := wide.Of(x), degreeIn(p, i)
		point[i] = coordinate{powers(a.Numerator(), degree), powers(a.Denominator(), degree)}
	}
	return point
}

// degreeIn returns the degree in variable i, 0 for the zero polynomial.
func degreeIn(p api.Poly, i int) int {
	degree := 0
	for _, m := range p.Terms {
		degree = max(degree, m.Exps[i])
	}
	return degree
}

// powers returns the powers 0 to most of a.
func powers(a wide.Num, most int) []wide.Num {
	list := []wide.Num{wide.Int(1)}
	for k := range most {
		list = append(list, list[k].Mul(a))
	}
	return list
}

// scaled returns the value times the denominator of each coordinate to the power of its degree, which is positive. So it adds up no other fractions than the coefficients.
func scaled(p api.Poly, point []coordinate) wide.Num {
	if len(p.Terms) == 0 {
		return wide.Num{}
	}
	return scaledFrom(p.Terms, point, 0)
}

// scaledFrom returns the scaled value that the terms have in the variables from i on. It needs at least one term, and terms that agree in the variables ahead of i. It follows Horner's rule in variable i.
func scaledFrom(terms []api.Mono, point []coordinate, i int) wide.Num {
	if i == len(point) {
		return wide.Of(terms[0].Coef)
	}
	c := point[i]
	var value wide.Num
	for len(terms) > 0 {
		k := terms[0].Exps[i]
		count := slices.IndexFunc(terms, func(m api.Mono) bool { return m.Exps[i] != k })
		if count < 0 {
			count = len(terms)
		}
		value = value.Add(scaledFrom(terms[:count], point, i+1).Mul(c.below[c.degree()-k]))
		terms = terms[count:]
		below := 0
		if len(terms) > 0 {
			below = terms[0].Exps[i]
		}
		value = value.Mul(c.above[k-below])
	}
	return value
}
