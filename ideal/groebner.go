package ideal

import "slices"

// pair stands for the S-polynomial of two members of a basis: the difference of the multiples of them that begin with their least common multiple.
type pair struct {
	first, second int
	multiple      exponents
	// sugar is the degree that the S-polynomial would have if the members came from polynomials whose terms are all of the same degree. If the pairs with the least one come first, coefficients stay short.
	sugar int
}

// search is Buchberger's algorithm under way. The basis is complete when no pairs are left in the queue.
type search[C any] struct {
	ring[C]
	basis []polynomial[C]
	// sugars are those of the members of the basis.
	sugars []int
	// queue has the pairs in the order in which they are to be taken.
	queue []pair
}

// groebner returns the reduced basis by the order of the ring, in descending order of leading terms.
func (r ring[C]) groebner(generators []polynomial[C]) []polynomial[C] {
	s := &search[C]{ring: r}
	for _, g := range generators {
		s.add(r.remainder(g, s.basis), g.degree())
	}
	for len(s.queue) > 0 {
		next := s.queue[0]
		s.queue = s.queue[1:]
		if s.isNeeded(next) {
			s.add(r.remainder(s.difference(next), s.basis), next.sugar)
		}
	}
	return r.reduced(s.basis)
}

// add adds a polynomial to the basis if it is not zero, and to the queue its pairs with the members that there are.
func (s *search[C]) add(p polynomial[C], sugar int) {
	if len(p) == 0 {
		return
	}
	own := p[0].exps
	for i, q := range s.basis {
		other := q[0].exps
		multiple := own.multiple(other)
		degree := multiple.degree()
		whole := max(s.sugars[i]+degree-other.degree(), sugar+degree-own.degree())
		s.enqueue(pair{i, len(s.basis), multiple, whole})
	}
	s.basis = append(s.basis, s.monic(p))
	s.sugars = append(s.sugars, sugar)
}

// enqueue puts a pair behind those that come before it and those that are its equals.
func (s *search[C]) enqueue(x pair) {
	at, _ := slices.BinarySearchFunc(s.queue, x, func(y, x pair) int {
		if y.sugar < x.sugar || y.sugar == x.sugar && s.order(y.multiple, x.multiple) <= 0 {
			return -1
		}
		return 1
	})
	s.queue = slices.Insert(s.queue, at, x)
}

// isNeeded reports whether a pair that is taken may give something new. By Buchberger's criteria it does not if the leading terms have no variable in common, or if there is a third member whose leading term divides their multiple and whose pairs with both are taken already.
func (s *search[C]) isNeeded(x pair) bool {
	if s.basis[x.first][0].exps.isApart(s.basis[x.second][0].exps) {
		return false
	}
	for i, p := range s.basis {
		if i != x.first && i != x.second && p[0].exps.divides(x.multiple) && s.isTaken(i, x.first) && s.isTaken(i, x.second) {
			return false
		}
	}
	return true
}

// isTaken reports whether the pair of two members is taken.
func (s *search[C]) isTaken(i, k int) bool {
	first, second := min(i, k), max(i, k)
	return !slices.ContainsFunc(s.queue, func(x pair) bool { return x.first == first && x.second == second })
}

// difference returns the S-polynomial of a pair, without the leading terms, which cancel each other.
func (s *search[C]) difference(x pair) polynomial[C] {
	p, q := s.basis[x.first], s.basis[x.second]
	one := p[0].coef
	above := s.multiple(one, x.multiple.over(p[0].exps), p[1:])
	below := s.multiple(s.neg(one), x.multiple.over(q[0].exps), q[1:])
	return s.sum(above, below)
}

// reduced returns the reduced basis that belongs to a complete one.
func (r ring[C]) reduced(basis []polynomial[C]) []polynomial[C] {
	ascending := slices.SortedFunc(slices.Values(basis), func(p, q polynomial[C]) int { return r.order(p[0].exps, q[0].exps) })
	var least []polynomial[C]
	for _, p := range ascending {
		if !slices.ContainsFunc(least, func(q polynomial[C]) bool { return q[0].exps.divides(p[0].exps) }) {
			least = append(least, p)
		}
	}
	slices.Reverse(least)
	final := make([]polynomial[C], len(least))
	for i, p := range least {
		final[i] = append(polynomial[C]{p[0]}, r.remainder(p[1:], least)...)
	}
	return final
}
