package poly_test

import (
	"math/big"
	"testing"

	"isochrone/api"
	"isochrone/poly"
)

func TestDegrees(t *testing.T) {
	for _, c := range []struct {
		n     int
		p     string
		total int
		each  []int
	}{
		{0, "0", -1, nil}, {0, "5", 0, nil}, {2, "0", -1, []int{-1, -1}}, {8, "0", -1, []int{-1, -1, -1, -1, -1, -1, -1, -1}}, {2, "1/7", 0, []int{0, 0}}, {2, "1*x0", 1, []int{1, 0}}, {3, "1*x0*x1^2 + 1*x1^4 + 1*x0^2*x2", 4, []int{2, 4, 1}},
		{2, "1*x0^3 + 1*x0*x1^7 + 1*x1^5", 8, []int{3, 7}}, {2, "1*x0^3*x1^2 + 1*x0^4", 5, []int{4, 2}}, {8, "1*x7^40 + 1*x0^5*x1^5*x2^5*x3^5*x4^5*x5^5*x6^5*x7^5", 40, []int{5, 5, 5, 5, 5, 5, 5, 40}},
	} {
		p := read(c.n, c.p)
		if got, e := poly.Degree(p); got != c.total || e != api.OK {
			t.Errorf("Degree of %s is %d, %d", c.p, got, e)
		}
		for i, want := range c.each {
			if got, e := poly.DegreeIn(p, i); got != want || e != api.OK {
				t.Errorf("DegreeIn of %s and %d is %d, %d", c.p, i, got, e)
			}
		}
	}
	for what, p := range invalid() {
		if got, e := poly.Degree(p); got != 0 || e != api.ErrForm {
			t.Errorf("Degree of %s is %d, %d", what, got, e)
		}
	}
}

// TestIndexErrors has the functions with a polynomial and a variable.
func TestIndexErrors(t *testing.T) {
	one := func(p api.Poly) api.Poly { return partner(p) }
	for name, f := range map[string]func(p api.Poly, i int) (api.Poly, api.Errno){
		"DegreeIn": func(p api.Poly, i int) (api.Poly, api.Errno) {
			degree, e := poly.DegreeIn(p, i)
			return api.Poly{N: degree}, e
		},
		"Coef":                func(p api.Poly, i int) (api.Poly, api.Errno) { return poly.Coef(p, i, 0) },
		"Coef, high":          func(p api.Poly, i int) (api.Poly, api.Errno) { return poly.Coef(p, i, 99) },
		"Coef, out of range":  func(p api.Poly, i int) (api.Poly, api.Errno) { return poly.Coef(p, i, -1) },
		"Deriv":               poly.Deriv,
		"Subst":               func(p api.Poly, i int) (api.Poly, api.Errno) { return poly.Subst(p, i, one(p)) },
		"Subst of zero by it": func(p api.Poly, i int) (api.Poly, api.Errno) { return poly.Subst(p, i, p) },
		"Subst of other variables": func(p api.Poly, i int) (api.Poly, api.Errno) {
			return poly.Subst(p, i, read((partner(p).N+1)%9, "1"))
		},
	} {
		for n := range 9 {
			for _, p := range []string{"0", "1", "5/2"} {
				for _, i := range []int{-1, n, n + 1, 8, 100, 1 << 40, -1 << 63} {
					got, e := f(read(n, p), i)
					fails(t, name+" of a variable out of range", got, e, api.ErrRange)
				}
			}
		}
		for what, p := range invalid() {
			for _, i := range []int{0, 1, -1, 8} {
				got, e := f(p, i)
				fails(t, name+" of "+what, got, e, api.ErrForm)
			}
		}
	}
}

func TestCoef(t *testing.T) {
	for _, c := range []struct {
		n, i, k int
		p, want string
	}{
		{2, 0, 0, "0", "0"}, {2, 1, 5, "0", "0"}, {2, 0, 0, "7/2", "7/2"}, {2, 0, 1, "7/2", "0"}, {1, 0, 2, "3*x0^2 + 5*x0", "3"}, {1, 0, 1, "3*x0^2 + 5*x0", "5"}, {1, 0, 0, "3*x0^2 + 5*x0", "0"}, {1, 0, 3, "3*x0^2 + 5*x0", "0"},
		{3, 0, 1, "1*x0^2*x1 + 2*x0*x1*x2 + 3*x0*x2^2 + 4*x0 + 5*x1", "2*x1*x2 + 3*x2^2 + 4"}, {3, 1, 1, "1*x0^2*x1 + 2*x0*x1*x2 + 3*x0*x2^2 + 4*x0 + 5*x1", "1*x0^2 + 2*x0*x2 + 5"},
		{3, 1, 0, "1*x0^2*x1 + 2*x0*x1*x2 + 3*x0*x2^2 + 4*x0 + 5*x1", "3*x0*x2^2 + 4*x0"}, {3, 2, 2, "1*x0^2*x1 + 2*x0*x1*x2 + 3*x0*x2^2 + 4*x0 + 5*x1", "3*x0"},
		{8, 7, 40, "1*x7^40 + 1*x0^3*x7^37", "1"}, {8, 7, 37, "1*x7^40 + 1*x0^3*x7^37", "1*x0^3"}, {8, 7, 41, "1*x7^40 + 1*x0^3*x7^37", "0"}, {8, 7, 1 << 40, "1*x7^40 + 1*x0^3*x7^37", "0"}, {8, 0, 256, "1*x0^3", "0"}, {2, 0, 1<<63 - 1, "1*x0", "0"},
	} {
		got, e := poly.Coef(read(c.n, c.p), c.i, c.k)
		same(t, "a coefficient of "+c.p, got, e, read(c.n, c.want), api.OK)
	}
	for _, k := range []int{-1, -40, -1 << 63} {
		for _, p := range []string{"0", "1", "1*x0 + 1*x1"} {
			got, e := poly.Coef(read(2, p), 0, k)
			fails(t, "a coefficient out of range", got, e, api.ErrRange)
		}
	}
}

func TestDeriv(t *testing.T) {
	for _, c := range []struct {
		n, i    int
		p, want string
	}{
		{1, 0, "0", "0"}, {1, 0, "5", "0"}, {1, 0, "5*x0", "5"}, {2, 1, "5*x0", "0"}, {1, 0, "1*x0^40", "40*x0^39"}, {1, 0, "1/3*x0^3 + 1/2*x0^2 + 1*x0 + 7", "1*x0^2 + 1*x0 + 1"},
		{2, 0, "1*x0^2*x1 + 3*x0*x1^2 + 1*x1^3 + -1/4", "2*x0*x1 + 3*x1^2"}, {2, 1, "1*x0^2*x1 + 3*x0*x1^2 + 1*x1^3 + -1/4", "1*x0^2 + 6*x0*x1 + 3*x1^2"}, {8, 7, "1*x0*x7 + 1*x7^2", "1*x0 + 2*x7"},
	} {
		got, e := poly.Deriv(read(c.n, c.p), c.i)
		same(t, "the derivative of "+c.p, got, e, read(c.n, c.want), api.OK)
	}
	got, e := poly.Deriv(monomial(power(maxBits-2), 2).poly(1), 0)
	same(t, "the derivative with 200 words", got, e, monomial(power(maxBits-1), 1).poly(1), api.OK)
	got, e = poly.Deriv(monomial(power(1-maxBits), 2).poly(1), 0)
	same(t, "the derivative with a long Den", got, e, monomial(power(2-maxBits), 1).poly(1), api.OK)
	for _, p := range []table{monomial(power(maxBits-1), 2), monomial(power(maxBits-1), 2).plus(parse("1*x0^3")), monomial(power(maxBits-5), 32)} {
		got, e = poly.Deriv(p.poly(1), 0)
		fails(t, "the derivative with 201 words", got, e, api.ErrLimit)
	}
}

func TestPartsAgainstTables(t *testing.T) {
	s := source(2)
	for round := range 400 {
		n := 1 + round%8
		p := s.sparse(n, s.upTo(12), 40/n)
		a, i, k := p.poly(n), s.upTo(n-1), s.upTo(6)
		got, e := poly.Coef(a, i, k)
		same(t, "a coefficient of "+brief(a), got, e, p.coef(i, k).poly(n), api.OK)
		got, e = poly.Deriv(a, i)
		same(t, "the derivative of "+brief(a), got, e, p.deriv(i).poly(n), api.OK)
		total, in := -1, -1
		for m := range p {
			sum := 0
			for _, exponent := range m {
				sum += exponent
			}
			total, in = max(total, sum), max(in, m[i])
		}
		if degree, e := poly.Degree(a); degree != total || e != api.OK {
			t.Errorf("Degree of %s is %d, %d", brief(a), degree, e)
		}
		if degree, e := poly.DegreeIn(a, i); degree != in || e != api.OK {
			t.Errorf("DegreeIn of %s is %d, %d", brief(a), degree, e)
		}
	}
}

// TestCoefsMakeThePolynomial puts a polynomial together from its coefficients.
func TestCoefsMakeThePolynomial(t *testing.T) {
	s := source(3)
	ok := must(t)
	for range 100 {
		p := s.sparse(3, 9, 9).poly(3)
		for i := range 3 {
			sum, x := api.Poly{N: 3}, ok(poly.Var(3, i))
			for k := range 10 {
				sum = ok(poly.Add(sum, ok(poly.Mul(ok(poly.Coef(p, i, k)), ok(poly.Pow(x, k))))))
			}
			same(t, "the sum of parts", sum, api.OK, p, api.OK)
		}
	}
	long := monomial(power(maxBits-1), 1, 2).plus(monomial(big.NewRat(-1, 3), 1))
	got, e := poly.Coef(long.poly(2), 0, 1)
	same(t, "a long coefficient", got, e, long.coef(0, 1).poly(2), api.OK)
}
