package poly_test

import (
	"math/big"
	"testing"

	"isochrone/api"
	"isochrone/poly"
	"isochrone/rat"
)

// triples calls check with polynomials in n variables whose products are valid.
func triples(check func(n int, s *source, p, q, r api.Poly)) {
	s := source(11)
	for round := range 240 {
		n := round % 9
		most := 13 / max(n, 1)
		check(n, &s, s.sparse(n, s.upTo(5), most).poly(n), s.sparse(n, s.upTo(5), most).poly(n), s.sparse(n, s.upTo(5), most).poly(n))
	}
}

func TestRingLaws(t *testing.T) {
	ok := must(t)
	triples(func(n int, s *source, p, q, r api.Poly) {
		zero, one := read(n, "0"), read(n, "1")
		same(t, "q + p", ok(poly.Add(q, p)), api.OK, ok(poly.Add(p, q)), api.OK)
		same(t, "q * p", ok(poly.Mul(q, p)), api.OK, ok(poly.Mul(p, q)), api.OK)
		same(t, "p + (q + r)", ok(poly.Add(p, ok(poly.Add(q, r)))), api.OK, ok(poly.Add(ok(poly.Add(p, q)), r)), api.OK)
		same(t, "p * (q * r)", ok(poly.Mul(p, ok(poly.Mul(q, r)))), api.OK, ok(poly.Mul(ok(poly.Mul(p, q)), r)), api.OK)
		same(t, "p * (q + r)", ok(poly.Mul(p, ok(poly.Add(q, r)))), api.OK, ok(poly.Add(ok(poly.Mul(p, q)), ok(poly.Mul(p, r)))), api.OK)
		same(t, "p + 0", ok(poly.Add(p, zero)), api.OK, p, api.OK)
		same(t, "p * 1", ok(poly.Mul(p, one)), api.OK, p, api.OK)
		same(t, "p * 0", ok(poly.Mul(p, zero)), api.OK, zero, api.OK)
		same(t, "p - p", ok(poly.Sub(p, p)), api.OK, zero, api.OK)
		same(t, "p - q + q", ok(poly.Add(ok(poly.Sub(p, q)), q)), api.OK, p, api.OK)
		same(t, "p^3", ok(poly.Pow(p, 3)), api.OK, ok(poly.Mul(p, ok(poly.Mul(p, p)))), api.OK)
		c := fromBigRat(s.fraction())
		same(t, "c * p", ok(poly.Scale(p, c)), api.OK, ok(poly.Mul(p, ok(poly.Const(n, c)))), api.OK)
	})
}

func TestDegreeLaws(t *testing.T) {
	ok := must(t)
	degree := func(p api.Poly, i int) int {
		var d int
		var e api.Errno
		if i < 0 {
			d, e = poly.Degree(p)
		} else {
			d, e = poly.DegreeIn(p, i)
		}
		if e != api.OK {
			t.Fatalf("error %d", e)
		}
		return d
	}
	triples(func(n int, _ *source, p, q, _ api.Poly) {
		product := ok(poly.Mul(p, q))
		for i := -1; i < n; i++ {
			want := degree(p, i) + degree(q, i)
			if len(p.Terms) == 0 || len(q.Terms) == 0 {
				want = -1
			}
			if degree(product, i) != want {
				t.Errorf("the degree of the product of %s and %s is %d", brief(p), brief(q), degree(product, i))
			}
		}
	})
}

func TestDerivLaws(t *testing.T) {
	ok := must(t)
	triples(func(n int, s *source, p, q, _ api.Poly) {
		if n == 0 {
			return
		}
		i, k := s.upTo(n-1), s.upTo(n-1)
		d := func(p api.Poly, i int) api.Poly { return ok(poly.Deriv(p, i)) }
		same(t, "the derivative of a sum", d(ok(poly.Add(p, q)), i), api.OK, ok(poly.Add(d(p, i), d(q, i))), api.OK)
		same(t, "the derivative of a product", d(ok(poly.Mul(p, q)), i), api.OK, ok(poly.Add(ok(poly.Mul(d(p, i), q)), ok(poly.Mul(p, d(q, i))))), api.OK)
		same(t, "the second derivative", d(d(p, i), k), api.OK, d(d(p, k), i), api.OK)
	})
}

func TestValueLaws(t *testing.T) {
	ok := must(t)
	number := func(a api.Rat, e api.Errno) api.Rat {
		if e != api.OK {
			t.Fatalf("error %d", e)
		}
		return a
	}
	triples(func(n int, s *source, p, q, _ api.Poly) {
		at := make([]*big.Rat, n)
		for i := range at {
			at[i] = s.fraction()
		}
		value := func(p api.Poly) api.Rat { return number(poly.Eval(p, point(at))) }
		a, b := value(p), value(q)
		sameNumber(t, "the value of p + q", value(ok(poly.Add(p, q))), api.OK, number(rat.Add(a, b)), api.OK)
		sameNumber(t, "the value of p - q", value(ok(poly.Sub(p, q))), api.OK, number(rat.Sub(a, b)), api.OK)
		sameNumber(t, "the value of p * q", value(ok(poly.Mul(p, q))), api.OK, number(rat.Mul(a, b)), api.OK)
		sameNumber(t, "the value of p^2", value(ok(poly.Pow(p, 2))), api.OK, number(rat.Pow(a, 2)), api.OK)
		sameNumber(t, "the value of 1", value(ok(poly.Const(n, rat.From(1)))), api.OK, rat.From(1), api.OK)
		for i := range n {
			sameNumber(t, "the value of a variable", value(ok(poly.Var(n, i))), api.OK, fromBigRat(at[i]), api.OK)
			into, e := poly.Subst(p, i, q)
			if e == api.ErrLimit {
				continue
			}
			moved := point(at)
			moved[i] = b
			sameNumber(t, "the value of Subst", value(ok(into, e)), api.OK, number(poly.Eval(p, moved)), api.OK)
		}
	})
}

func TestDivideLaws(t *testing.T) {
	ok := must(t)
	triples(func(n int, _ *source, p, q, _ api.Poly) {
		if len(q.Terms) == 0 {
			return
		}
		same(t, "p * q / q", ok(poly.Divide(ok(poly.Mul(p, q)), q)), api.OK, p, api.OK)
		if quotient, e := poly.Divide(p, q); e == api.OK {
			same(t, "p / q * q", ok(poly.Mul(quotient, q)), api.OK, p, api.OK)
		}
	})
}
