package ideal_test

import (
	"maps"
	"math/big"
	"slices"

	"isochrone/api"
)

// key has the exponents of a term.
type key [api.MaxVars]int

func (k key) compare(m key) int {
	return slices.Compare(k[:], m[:])
}

func (k key) divides(m key) bool {
	for i := range k {
		if k[i] > m[i] {
			return false
		}
	}
	return true
}

// shifted returns the exponents plus those of to, less those of from.
func (k key) shifted(to, from key) key {
	for i := range k {
		k[i] += to[i] - from[i]
	}
	return k
}

// monomials returns the exponents of the monomials in n variables up to a degree.
func monomials(n, degree int) []key {
	var list []key
	var m key
	var fill func(i, left int)
	fill = func(i, left int) {
		if i == n {
			list = append(list, m)
			return
		}
		for k := range left + 1 {
			m[i] = k
			fill(i+1, left-k)
		}
		m[i] = 0
	}
	fill(0, degree)
	return list
}

// table is a polynomial as a table from exponents to coefficients that are not zero. Its functions are the simplest ones that there are, to compare with.
type table map[key]*big.Rat

// monomial returns a term as a table.
func monomial(c *big.Rat, exps ...int) table {
	var m key
	copy(m[:], exps)
	return table{m: c}
}

func tableOf(p api.Poly) table {
	made := table{}
	for _, m := range p.Terms {
		var k key
		copy(k[:], m.Exps)
		made[k] = toBigRat(m.Coef)
	}
	return made
}

func tablesOf(list []api.Poly) []table {
	var made []table
	for _, p := range list {
		made = append(made, tableOf(p))
	}
	return made
}

// poly returns the polynomial in n variables, which is not valid if it breaks a limit.
func (p table) poly(n int) api.Poly {
	made := api.Poly{N: n}
	for _, m := range slices.SortedFunc(maps.Keys(p), func(a, b key) int { return b.compare(a) }) {
		made.Terms = append(made.Terms, api.Mono{Exps: slices.Clone(m[:n]), Coef: fromBigRat(p[m])})
	}
	return made
}

// add adds a term to p.
func (p table) add(c *big.Rat, m key) {
	sum := new(big.Rat).Set(c)
	if old, ok := p[m]; ok {
		sum.Add(sum, old)
	}
	p[m] = sum
	if sum.Sign() == 0 {
		delete(p, m)
	}
}

// first returns the exponents of the leading term.
func (p table) first() key {
	return slices.MaxFunc(slices.Collect(maps.Keys(p)), key.compare)
}

// take subtracts from p the multiple of a monic q by a number and a monomial that makes its leading term c*m.
func (p table) take(c *big.Rat, m key, q table) {
	first, minus := q.first(), new(big.Rat).Neg(c)
	for k, d := range q {
		p.add(new(big.Rat).Mul(minus, d), k.shifted(m, first))
	}
}

func (p table) monic() table {
	inverse, q := new(big.Rat).Inv(p[p.first()]), table{}
	for m, c := range p {
		q[m] = new(big.Rat).Mul(c, inverse)
	}
	return q
}

// remainder divides by monic polynomials.
func (p table) remainder(basis []table) table {
	p = maps.Clone(p)
	rest := table{}
	for len(p) > 0 {
		m := p.first()
		i := slices.IndexFunc(basis, func(q table) bool { return q.first().divides(m) })
		if i >= 0 {
			p.take(p[m], m, basis[i])
			continue
		}
		rest[m] = p[m]
		delete(p, m)
	}
	return rest
}

// difference returns the S-polynomial of two monic polynomials.
func difference(p, q table) table {
	m := p.first()
	for i, k := range q.first() {
		m[i] = max(m[i], k)
	}
	one, s := big.NewRat(1, 1), table{}
	s.take(big.NewRat(-1, 1), m, p)
	s.take(one, m, q)
	return s
}

// isComplete reports whether monic polynomials are a Groebner basis, by Buchberger's criterion.
func isComplete(basis []table) bool {
	for i, p := range basis {
		for _, q := range basis[:i] {
			if len(difference(p, q).remainder(basis)) > 0 {
				return false
			}
		}
	}
	return true
}

// naiveBasis returns the reduced basis by Buchberger's algorithm as it stands in books.
func naiveBasis(gens []table) []table {
	var basis []table
	waiting := slices.Clone(gens)
	for len(waiting) > 0 {
		p := waiting[0].remainder(basis)
		waiting = waiting[1:]
		if len(p) == 0 {
			continue
		}
		p = p.monic()
		for _, q := range basis {
			waiting = append(waiting, difference(p, q))
		}
		basis = append(basis, p)
	}
	return reduced(basis)
}

// reduced returns the reduced basis that belongs to a complete one, in descending order.
func reduced(basis []table) []table {
	slices.SortFunc(basis, func(p, q table) int { return p.first().compare(q.first()) })
	var least []table
	for _, p := range basis {
		if !slices.ContainsFunc(least, func(q table) bool { return q.first().divides(p.first()) }) {
			least = append(least, p)
		}
	}
	slices.Reverse(least)
	for i, p := range least {
		others := slices.Delete(slices.Clone(least), i, i+1)
		least[i] = p.remainder(others)
	}
	return least
}

func polysOf(n int, list []table) []api.Poly {
	var polys []api.Poly
	for _, p := range list {
		polys = append(polys, p.poly(n))
	}
	return polys
}
