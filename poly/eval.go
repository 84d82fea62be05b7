package poly

import (
	"slices"

	"isochrone/api"
	"isochrone/wide"
)

// Eval returns the value of p at a point: ErrForm if p or a coordinate is not valid, then ErrRange if the point does not have a coordinate for each variable, then ErrLimit if the value needs more than MaxWords words.
func Eval(p api.Poly, at []api.Rat) (api.Rat, api.Errno) {
	if !Valid(p) || slices.ContainsFunc(at, invalidNumber) {
		return api.Rat{}, api.ErrForm
	}
	if len(at) != p.N {
		return api.Rat{}, api.ErrRange
	}
	value := valueAt(load(p), at)
	if !value.Fits(api.MaxWords) {
		return api.Rat{}, api.ErrLimit
	}
	return value.Rat(), api.OK
}

func invalidNumber(c api.Rat) bool {
	return !validNumber(c)
}

// coordinate is a coordinate x = a/b of a point: the powers of a and of b, from power 0 to the degree that a polynomial has in its variable.
type coordinate struct {
	above, below []wide.Num
}

func (c coordinate) degree() int {
	return len(c.above) - 1
}

// valueAt multiplies by the denominators of the point first, so that it adds up no other fractions than the coefficients, and divides by them in the end: by one at a time, since a short divisor is quickly reduced.
func valueAt(p []term, at []api.Rat) wide.Num {
	if len(p) == 0 {
		return wide.Num{}
	}
	point := make([]coordinate, len(at))
	for i, x := range at {
		a, degree := wide.Of(x), degreeIn(p, i)
		point[i] = coordinate{powers(a.Numerator(), degree), powers(a.Denominator(), degree)}
	}
	value := valueFrom(p, point, 0)
	for i, c := range point {
		for range c.degree() {
			value = value.Quo(wide.Of(at[i]).Denominator())
		}
	}
	return value
}

// powers returns the powers 0 to most of a.
func powers(a wide.Num, most int) []wide.Num {
	list := []wide.Num{wide.Int(1)}
	for k := range most {
		list = append(list, list[k].Mul(a))
	}
	return list
}

// valueFrom returns the value that p has in the variables from i on, times the denominator of each of them to the power of its degree. It needs at least one term, and terms that agree in the variables ahead of i. It follows Horner's rule in variable i.
func valueFrom(p []term, point []coordinate, i int) wide.Num {
	if i == len(point) {
		return p[0].coef
	}
	c := point[i]
	var value wide.Num
	for len(p) > 0 {
		k := p[0].exps.exponent(i)
		count := slices.IndexFunc(p, func(t term) bool { return t.exps.exponent(i) != k })
		if count < 0 {
			count = len(p)
		}
		value = value.Add(valueFrom(p[:count], point, i+1).Mul(c.below[c.degree()-k]))
		p = p[count:]
		below := 0
		if len(p) > 0 {
			below = p[0].exps.exponent(i)
		}
		value = value.Mul(c.above[k-below])
	}
	return value
}
