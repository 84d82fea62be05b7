package root

import (
	"slices"

	"isochrone/api"
	"isochrone/wide"
)

// Eval returns the value of c at x: ErrForm if one of them is not valid, then ErrLimit if the value needs more than MaxWords words.
func Eval(c []api.Rat, x api.Rat) (api.Rat, api.Errno) {
	if !Valid(c) || !validNumber(x) {
		return api.Rat{}, api.ErrForm
	}
	return storeNumber(load(c).value(wide.Of(x)))
}

// Add returns a + b.
func Add(a, b []api.Rat) ([]api.Rat, api.Errno) {
	if !Valid(a) || !Valid(b) {
		return nil, api.ErrForm
	}
	return store(load(a).plus(load(b)))
}

// Mul returns a * b: ErrForm, then ErrLimit if the degree or a number is too great.
func Mul(a, b []api.Rat) ([]api.Rat, api.Errno) {
	if !Valid(a) || !Valid(b) {
		return nil, api.ErrForm
	}
	if len(a) == 0 || len(b) == 0 {
		return nil, api.OK
	}
	product := make(list, len(a)+len(b)-1)
	if len(product) > api.MaxDegree+1 {
		return nil, api.ErrLimit
	}
	p, q := load(a), load(b)
	for k := range product {
		product[k] = p.timesAt(q, k)
		if !product[k].Fits(maxWords) {
			return nil, api.ErrLimit
		}
	}
	return product.rats(), api.OK
}

// DivMod returns the quotient and the remainder of a by b: ErrForm, then ErrZero if b is zero, then ErrLimit.
func DivMod(a, b []api.Rat) (q, r []api.Rat, e api.Errno) {
	if !Valid(a) || !Valid(b) {
		return nil, nil, api.ErrForm
	}
	if len(b) == 0 {
		return nil, nil, api.ErrZero
	}
	whole, rest, short := load(a).divided(load(b))
	if !short || !rest.fits() {
		return nil, nil, api.ErrLimit
	}
	return whole.rats(), rest.rats(), api.OK
}

// Deriv returns the derivative of c.
func Deriv(c []api.Rat) ([]api.Rat, api.Errno) {
	if !Valid(c) {
		return nil, api.ErrForm
	}
	return store(load(c).derivative())
}

// Bound returns a number that is greater than the absolute values of all roots of c: ErrForm, then ErrZero if c is zero.
func Bound(c []api.Rat) (api.Rat, api.Errno) {
	if !Valid(c) {
		return api.Rat{}, api.ErrForm
	}
	if len(c) == 0 {
		return api.Rat{}, api.ErrZero
	}
	return storeNumber(load(c).bound())
}

// storeNumber returns a number if it has at most MaxWords words.
func storeNumber(x wide.Num) (api.Rat, api.Errno) {
	if !x.Fits(api.MaxWords) {
		return api.Rat{}, api.ErrLimit
	}
	return x.Rat(), api.OK
}

func (p list) plus(q list) list {
	if len(p) < len(q) {
		p, q = q, p
	}
	sum := slices.Clone(p)
	for i, x := range q {
		sum[i] = sum[i].Add(x)
	}
	return sum.trimmed()
}

// timesAt returns coefficient k of p * q.
func (p list) timesAt(q list, k int) wide.Num {
	var sum wide.Num
	for i := max(k-q.degree(), 0); i <= min(k, p.degree()); i++ {
		sum = sum.Add(p[i].Mul(q[k-i]))
	}
	return sum
}

// divided returns the quotient and the remainder of p by q, which is not zero. It finds the quotient from its highest coefficient downwards, and stops at one that is too long for a result: then it reports false.
func (p list) divided(q list) (whole, rest list, short bool) {
	rest = slices.Clone(p)
	whole = make(list, max(len(p)-q.degree(), 0))
	for k := len(whole) - 1; k >= 0; k-- {
		factor := rest[k+q.degree()].Quo(q.last())
		if !factor.Fits(maxWords) {
			return nil, nil, false
		}
		whole[k] = factor
		rest.subtract(k, factor, q)
	}
	return whole, rest.trimmed(), true
}

// subtract takes factor * q, moved k places up, from p in place.
func (p list) subtract(k int, factor wide.Num, q list) {
	factor = factor.Neg()
	for i, x := range q {
		p[k+i] = p[k+i].Add(factor.Mul(x))
	}
}

// value multiplies by the denominator of x first and divides by it in the end: by one power at a time, since a short divisor is quickly reduced.
func (p list) value(x wide.Num) wide.Num {
	if len(p) == 0 {
		return wide.Num{}
	}
	whole, factor := p.whole()
	den := x.Denominator()
	value := whole.at(x.Numerator(), den)
	for range p.degree() {
		value = value.Quo(den)
	}
	return value.Mul(factor)
}

// bound returns 1 plus the greatest absolute value of a coefficient of the monic multiple of p other than the last one. It needs a polynomial that is not zero.
func (p list) bound() wide.Num {
	var most wide.Num
	for _, x := range p[:p.degree()] {
		if x.Abs().Cmp(most) > 0 {
			most = x.Abs()
		}
	}
	return most.Quo(p.last().Abs()).Add(wide.Int(1))
}
