package rat

import (
	"isochrone/api"
	"isochrone/nat"
)

// maxPower is the greatest exponent of Pow, with either sign.
const maxPower = 1000

// Add returns a + b.
func Add(a, b api.Rat) (api.Rat, api.Errno) {
	if !Valid(a) || !Valid(b) {
		return api.Rat{}, api.ErrForm
	}
	return fit(sum(a, b))
}

// Sub returns a - b.
func Sub(a, b api.Rat) (api.Rat, api.Errno) {
	if !Valid(a) || !Valid(b) {
		return api.Rat{}, api.ErrForm
	}
	return fit(sum(a, opposite(b)))
}

// Mul returns a * b.
func Mul(a, b api.Rat) (api.Rat, api.Errno) {
	if !Valid(a) || !Valid(b) {
		return api.Rat{}, api.ErrForm
	}
	return fit(product(a, b))
}

// Div returns a / b, or ErrZero if b is zero.
func Div(a, b api.Rat) (api.Rat, api.Errno) {
	if !Valid(a) || !Valid(b) {
		return api.Rat{}, api.ErrForm
	}
	if sign(b) == 0 {
		return api.Rat{}, api.ErrZero
	}
	return fit(product(a, inverse(b)))
}

// Neg returns -a.
func Neg(a api.Rat) (api.Rat, api.Errno) {
	if !Valid(a) {
		return api.Rat{}, api.ErrForm
	}
	return copied(opposite(a)), api.OK
}

// Pow returns a to the power n: ErrRange if n is not from -maxPower to maxPower, then ErrZero if a is zero and n is negative.
func Pow(a api.Rat, n int) (api.Rat, api.Errno) {
	if !Valid(a) {
		return api.Rat{}, api.ErrForm
	}
	if n < -maxPower || n > maxPower {
		return api.Rat{}, api.ErrRange
	}
	if n < 0 {
		if sign(a) == 0 {
			return api.Rat{}, api.ErrZero
		}
		a, n = inverse(a), -n
	}
	num, e := nat.Pow(a.Num, n)
	if e != api.OK {
		return api.Rat{}, e
	}
	den, e := nat.Pow(a.Den, n)
	if e != api.OK {
		return api.Rat{}, e
	}
	return signed(a.Neg && n%2 == 1, num, den), api.OK
}

// Mid returns (a + b) / 2.
func Mid(a, b api.Rat) (api.Rat, api.Errno) {
	if !Valid(a) || !Valid(b) {
		return api.Rat{}, api.ErrForm
	}
	return fit(half(sum(a, b)))
}

func sum(a, b api.Rat) api.Rat {
	g := gcd(a.Den, b.Den)
	ownA, ownB := quotient(a.Den, g), quotient(b.Den, g)
	neg, num := signedSum(a.Neg, times(a.Num, ownB), b.Neg, times(b.Num, ownA))
	// A prime factor of ownA divides one of the two products and not the other one, likewise one of ownB; so num has factors in common with g alone.
	h := gcd(g, remainder(num, g))
	return signed(neg, quotient(num, h), times(ownA, quotient(b.Den, h)))
}

// signedSum returns the sum of two natural numbers of any length that are taken with signs.
func signedSum(negA bool, a []uint32, negB bool, b []uint32) (neg bool, size []uint32) {
	switch {
	case negA == negB:
		return negA, plus(a, b)
	case compare(a, b) >= 0:
		return negA, minus(a, b)
	}
	return negB, minus(b, a)
}

// product reduces before it multiplies: what is left has no factor in common.
func product(a, b api.Rat) api.Rat {
	g, h := gcd(a.Num, b.Den), gcd(b.Num, a.Den)
	num := times(quotient(a.Num, g), quotient(b.Num, h))
	den := times(quotient(a.Den, h), quotient(b.Den, g))
	return signed(a.Neg != b.Neg, num, den)
}

// half takes numbers of any length.
func half(a api.Rat) api.Rat {
	two := nat.From(2)
	if len(remainder(a.Num, two)) == 0 {
		return signed(a.Neg, quotient(a.Num, two), a.Den)
	}
	return signed(a.Neg, a.Num, times(a.Den, two))
}

// opposite returns -a in the memory of a.
func opposite(a api.Rat) api.Rat {
	return signed(!a.Neg, a.Num, a.Den)
}

// inverse returns 1/a in the memory of a. It needs a number that is not zero.
func inverse(a api.Rat) api.Rat {
	return signed(a.Neg, a.Den, a.Num)
}
