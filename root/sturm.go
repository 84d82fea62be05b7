package root

import "isochrone/wide"

// chain is Sturm's chain of a polynomial: the polynomial, its derivative, and the negative remainders of each two neighbours, up to positive factors.
type chain []list

// The work that a chain may take is about the number of products of words. Much work pays where halving an interval instead would take far more.
const (
	someWork = 1 << 24
	muchWork = 1 << 29
)

// sturm returns the chain of a polynomial of integers whose roots are simple, and which is no constant. It reports false if that takes more than the given work: the numbers in a chain of degree 40 may have 80 times as many words as those of the polynomial.
func sturm(p list, most int) (c chain, short bool) {
	slope, _ := p.derivative().primitive()
	c = chain{p, slope}
	work := 0
	for c[len(c)-1].degree() > 0 {
		above, below := c[len(c)-2], c[len(c)-1]
		work += remainderWork(above, below)
		if work > most {
			return nil, false
		}
		c = append(c, negativeRemainder(above, below))
	}
	return c, true
}

// remainderWork returns about how many products of words a remainder of p by q takes: all numbers of p are multiplied by one of q for each degree that p has more, and once again.
func remainderWork(p, q list) int {
	steps := len(p) - len(q) + 1
	return steps * len(p) * (p.words() + steps*q.words()) * q.words()
}

// words returns the greatest number of words of a coefficient.
func (p list) words() int {
	most := 0
	for _, x := range p {
		most = max(most, x.Words())
	}
	return most
}

// negativeRemainder returns a positive multiple of the negative remainder of p by q, which needs not to be zero.
func negativeRemainder(p, q list) list {
	top := q.last()
	for len(p) >= len(q) {
		// The product with the size of top keeps the signs.
		rest := make(list, len(p))
		for i, x := range p {
			rest[i] = x.Mul(top.Abs())
		}
		factor := p.last()
		if top.Sign() < 0 {
			factor = factor.Neg()
		}
		rest.subtract(len(p)-len(q), factor, q)
		p = rest.trimmed()
	}
	rest, _ := p.primitive()
	return rest.negative()
}

func (p list) negative() list {
	q := make(list, len(p))
	for i, x := range p {
		q[i] = x.Neg()
	}
	return q
}

// count returns the number of roots in the interval that are greater than the lower end and at most the upper end.
func (c chain) count(in interval) int {
	return c.changes(in.lo, in.den) - c.changes(in.hi, in.den)
}

// changes returns the number of changes of sign in the values of the chain at num/den, without the zeros.
func (c chain) changes(num, den wide.Num) int {
	values := make(list, len(c))
	for i, p := range c {
		values[i] = p.at(num, den)
	}
	return values.changes()
}

// changes returns the number of changes of sign in a list of numbers, without the zeros.
func (p list) changes() int {
	count, sign := 0, 0
	for _, x := range p {
		if x.Sign() == -sign && sign != 0 {
			count++
		}
		if x.Sign() != 0 {
			sign = x.Sign()
		}
	}
	return count
}
