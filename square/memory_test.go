package square_test

import (
	"slices"
	"testing"

	"isochrone/api"
	"isochrone/square"
)

// slots has the slices of numbers of a result, with what they could grow into.
type slots struct {
	words [][]uint32
	exps  [][]int
}

func (s *slots) number(x api.Rat) {
	s.words = append(s.words, x.Num[:cap(x.Num)], x.Den[:cap(x.Den)])
}

func (s *slots) poly(p api.Poly) {
	for _, m := range p.Terms {
		s.number(m.Coef)
		s.exps = append(s.exps, m.Exps[:cap(m.Exps)])
	}
}

func (s *slots) square(x api.Square) {
	s.number(x.Weight)
	s.poly(x.Poly)
}

func (s *slots) cert(c api.Cert) {
	for _, x := range c.Nums {
		s.number(x)
	}
	for _, p := range c.Polys {
		s.poly(p)
	}
	for _, x := range c.Squares {
		s.square(x)
	}
	for _, kid := range c.Kids {
		s.cert(kid)
	}
}

// flip changes one of the slices; called again, it changes it back.
func (s *slots) flip(i int) {
	if i < len(s.words) {
		for k := range s.words[i] {
			s.words[i][k] ^= 0x55555555
		}
		return
	}
	for k := range s.exps[i-len(s.words)] {
		s.exps[i-len(s.words)][k] ^= 0x5555
	}
}

func (s *slots) count() int {
	return len(s.words) + len(s.exps)
}

func (s *slots) copied() slots {
	return slots{cloneAll(s.words, slices.Clone[[]uint32]), cloneAll(s.exps, slices.Clone[[]int])}
}

func (s *slots) equals(other slots) bool {
	return slices.EqualFunc(s.words, other.words, slices.Equal) && slices.EqualFunc(s.exps, other.exps, slices.Equal)
}

// wipe clears the lists of a result and what they could grow into.
func wipe(c api.Cert) {
	for _, kid := range c.Kids {
		wipe(kid)
	}
	for _, p := range c.Polys {
		clear(p.Terms[:cap(p.Terms)])
	}
	for _, x := range c.Squares {
		clear(x.Poly.Terms[:cap(x.Poly.Terms)])
	}
	clear(c.Nums[:cap(c.Nums)])
	clear(c.Polys[:cap(c.Polys)])
	clear(c.Squares[:cap(c.Squares)])
	clear(c.Kids[:cap(c.Kids)])
}

// inputs are the arguments of the calls.
type inputs struct {
	squares []api.Square
	claims  []api.Claim
	certs   []api.Cert
	points  []api.Rat
}

func (in inputs) cloned() inputs {
	return inputs{cloneAll(in.squares, cloneSquare), cloneAll(in.claims, cloneClaim), cloneAll(in.certs, cloneCert), cloneAll(in.points, cloneNumber)}
}

func (in inputs) equals(other inputs) bool {
	sameClaim := func(c, d api.Claim) bool { return c.Rel == d.Rel && equalPolys(c.Poly, d.Poly) }
	return equalSquares(in.squares, other.squares) && slices.EqualFunc(in.claims, other.claims, sameClaim) && slices.EqualFunc(in.certs, other.certs, equalCerts) && slices.EqualFunc(in.points, other.points, equalNumbers)
}

// calls return their results as certificates, whatever they are.
func calls(in inputs) map[string]func() (api.Cert, api.Errno) {
	hyps, none, goals := in.claims[:3], in.claims[:4], in.claims[4:]
	quadratic := func(p api.Poly) func() (api.Cert, api.Errno) {
		return func() (api.Cert, api.Errno) {
			list, at, e := square.Quadratic(p)
			return api.Cert{Squares: list, Nums: at}, e
		}
	}
	implied := func(hyps []api.Claim, goal api.Claim) func() (api.Cert, api.Errno) {
		return func() (api.Cert, api.Errno) { return square.Implied(hyps, goal) }
	}
	return map[string]func() (api.Cert, api.Errno){
		"Sum": func() (api.Cert, api.Errno) {
			p, e := square.Sum(in.squares, 2)
			return api.Cert{Polys: []api.Poly{p}}, e
		},
		"Sum of one square": func() (api.Cert, api.Errno) {
			p, e := square.Sum(in.squares[:1], 2)
			return api.Cert{Polys: []api.Poly{p}}, e
		},
		"squares of Quadratic": quadratic(goals[0].Poly), "a single square of Quadratic": quadratic(goals[1].Poly), "a point of Quadratic": quadratic(goals[2].Poly), "Quadratic of a constant": quadratic(goals[3].Poly),
		"Implied by one hypothesis": implied(hyps, hyps[1]), "Implied by an equation": implied(none, hyps[2]), "Implied by lines": implied(hyps, goals[4]), "Implied by two sides": implied(hyps, goals[5]), "Implied by no point": implied(none, goals[6]), "Implied by squares": implied(hyps, goals[0]), "Implied for zero": implied(hyps, goals[7]),
		"others": func() (api.Cert, api.Errno) {
			for _, cert := range in.certs {
				square.Proves(hyps[:1], goals[4], cert)
				square.Proves(hyps, goals[4], cert)
				square.Proves(nil, goals[4], cert)
			}
			for _, c := range in.claims {
				square.Holds(c, in.points)
			}
			return kind1("1", nil), api.OK
		},
	}
}

// TestMemory: calls leave their arguments as they are, and results share no memory with them, with other results or within themselves.
func TestMemory(t *testing.T) {
	in := inputs{
		squares: squares(2, "2/3 1*x + -1/5*y", "3 7*x + 4/3", "1 1"),
		claims:  claims(2, "1*x + -1/3 >= 0", "2*x + 3/5*y > 0", "1*x + 2/3*y = 0", "-1*x + 1/7 >= 0", "2*x^2 + 3*y^2 + 2/3*x + 5 >= 0", "1*x^2 >= 0", "1*x^2 + 3*x*y >= 0", "5/7 >= 0", "1*x + 1/4 > 0", "3*x + 2*y = 0", "1*x^5 + -1 > 0", "0 = 0"),
		certs:   []api.Cert{kind1("5", squares(2, "1 1*x"), bySquares(2, "1 1")), {Kind: 2, Kids: []api.Cert{kind1("1", nil, by(2, "1*x")), kind1("1", nil, by(2, "1*x"))}}, {Kind: 3, Kids: []api.Cert{kind1("1", squares(2, "2 1"), bySquares(2, "1 1"))}}},
		points:  numbers("1/2 -3/7"),
	}
	kinds := map[string]int{"Implied by one hypothesis": 1, "Implied by lines": 1, "Implied by two sides": 2, "Implied by no point": 3, "Implied by squares": 1}
	before := in.cloned()
	for name, call := range calls(in) {
		first, e := call()
		if e != api.OK || first.Kind != kinds[name] && kinds[name] > 0 {
			t.Errorf("%s is of kind %d with error %d", name, first.Kind, e)
		}
		want := cloneCert(first)
		second, _ := call()
		var own slots
		own.cert(second)
		if own.count() == 0 {
			t.Errorf("%s has no numbers", name)
		}
		for i := range own.count() {
			snapshot := own.copied()
			own.flip(i)
			snapshot.flip(i)
			if !own.equals(snapshot) {
				t.Errorf("two parts of the result of %s share memory", name)
			}
		}
		wipe(second)
		if !in.equals(before) {
			t.Fatalf("the result of %s shares memory with an argument, or the call changes one", name)
		}
		third, _ := call()
		if !equalCerts(first, want) || !equalCerts(third, want) {
			t.Errorf("two results of %s differ or share memory", name)
		}
	}
}
