package root

import (
	"isochrone/api"
	"isochrone/modular"
	"isochrone/wide"
)

// GCD returns the monic greatest common divisor of a and b, and zero if both are zero: ErrForm, then ErrLimit.
func GCD(a, b []api.Rat) ([]api.Rat, api.Errno) {
	if !Valid(a) || !Valid(b) {
		return nil, api.ErrForm
	}
	switch {
	case len(a) == 0 && len(b) == 0:
		return nil, api.OK
	case len(a) == 0:
		return store(load(b).monic())
	case len(b) == 0:
		return store(load(a).monic())
	}
	p, _ := load(a).whole()
	q, _ := load(b).whole()
	return store(commonDivisor(p, q).monic())
}

// SquareFree returns the monic polynomial that has the roots of c, each once: ErrForm, then ErrZero if c is zero, then ErrLimit.
func SquareFree(c []api.Rat) ([]api.Rat, api.Errno) {
	if !Valid(c) {
		return nil, api.ErrForm
	}
	if len(c) == 0 {
		return nil, api.ErrZero
	}
	_, monic := load(c).free()
	return store(monic)
}

// isSquareFree reports whether all roots of a polynomial of integers, real and complex, are simple. It may not be constant.
func (p list) isSquareFree() bool {
	slope, _ := p.derivative().primitive()
	return commonDivisor(p, slope).degree() == 0
}

// free returns the polynomial of integers without common factor that has the roots of p, each once, and its monic multiple. It needs a polynomial p that is not zero.
func (p list) free() (whole, monic list) {
	all, _ := p.whole()
	whole = all.squareFree()
	if len(whole) == len(p) {
		// The numbers of p are shorter.
		return whole, p.monic()
	}
	return whole, whole.monic()
}

// squareFree returns the polynomial of integers without common factor that has the roots of p, each once. It needs such a polynomial p that is not zero.
func (p list) squareFree() list {
	if p.degree() == 0 {
		return list{wide.Int(1)}
	}
	slope, _ := p.derivative().primitive()
	free, _ := p.exactly(commonDivisor(p, slope))
	return free
}

// commonDivisor returns the greatest common divisor of two polynomials of integers that are not zero and have no common factors in their coefficients; it has none either, and its last coefficient is positive.
//
// It finds the divisor modulo one prime after the other and joins what they say. Modulo a prime that divides neither of the last coefficients, the degree is the true one or a greater one: so a constant is found at once, and what divides both polynomials is right.
func commonDivisor(p, q list) list {
	lead := wide.GCD(p.last(), q.last())
	var found joined
	for prime := modular.First; ; prime = prime.Next() {
		above, below := p.residues(prime), q.residues(prime)
		if len(above) < len(p) || len(below) < len(q) {
			continue
		}
		divisor := prime.GCD(above, below)
		if len(divisor) == 1 {
			return list{wide.Int(1)}
		}
		confirmed := found.join(divisor, lead, prime)
		if !confirmed || found.coefs.last().Cmp(lead) != 0 {
			continue
		}
		candidate, _ := found.coefs.primitive()
		if candidate.divides(p) && candidate.divides(q) {
			return candidate
		}
	}
}

func (p list) divides(q list) bool {
	_, ok := q.exactly(p)
	return ok
}

// residues returns a polynomial of integers modulo a prime.
func (p list) residues(prime modular.Prime) []uint64 {
	coefs := make([]uint64, len(p))
	for i, x := range p {
		coefs[i], _ = x.Residues(uint64(prime))
	}
	return modular.Trimmed(coefs)
}

// joined is a polynomial of integers that is known modulo a product of primes: its coefficients are the ones of the least size.
type joined struct {
	coefs   list
	modulus wide.Num
}

// join takes what a monic divisor modulo a further prime, times lead, says of the polynomial. It reports whether this confirms the coefficients: then they are likely to be right.
func (j *joined) join(divisor []uint64, lead wide.Num, prime modular.Prime) bool {
	if len(divisor) != len(j.coefs) {
		// Either all primes so far gave too great a degree or this one does, which is rare.
		*j = joined{make(list, len(divisor)), wide.Int(1)}
	}
	top, _ := lead.Residues(uint64(prime))
	size, _ := j.modulus.Residues(uint64(prime))
	inverse := prime.Inverse(size)
	confirmed := true
	for i, c := range divisor {
		known, _ := j.coefs[i].Residues(uint64(prime))
		missing := prime.Plus(prime.Times(c, top), prime.Neg(known))
		if missing == 0 {
			continue
		}
		confirmed = false
		factor := least(prime.Times(missing, inverse), prime)
		j.coefs[i] = j.coefs[i].Add(j.modulus.Mul(factor))
	}
	j.modulus = j.modulus.Mul(wide.Int(int(prime)))
	return confirmed
}

// least returns the number of least size that is a modulo the prime.
func least(a uint64, prime modular.Prime) wide.Num {
	if a > uint64(prime)/2 {
		return wide.Int(-int(uint64(prime) - a))
	}
	return wide.Int(int(a))
}
