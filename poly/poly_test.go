package poly_test

import (
	"testing"

	"isochrone/api"
	"isochrone/poly"
)

func TestValid(t *testing.T) {
	for what, p := range map[string]api.Poly{
		"zero in no variables": {}, "zero in 8 variables": {N: 8}, "zero with an empty list": {N: 3, Terms: []api.Mono{}}, "a constant in no variables": read(0, "-7/3"), "a constant in no variables with nil exponents": {Terms: []api.Mono{{Coef: number("5")}}},
		"a constant": read(8, "5"), "several terms": read(3, "1*x0^2 + -1/2*x1*x2 + 3*x2^5 + -4"), "degree 40": read(1, "1*x0^40"), "degree 40 in sum": read(8, "1*x0^5*x1^5*x2^5*x3^5*x4^5*x5^5*x6^5*x7^5 + 1*x7^40"),
		"200 words": {N: 1, Terms: []api.Mono{{Exps: []int{1}, Coef: fromBigRat(power(maxBits - 1))}, {Exps: []int{0}, Coef: fromBigRat(power(1 - maxBits))}}}, "MaxTerms terms": filled(api.MaxTerms).poly(8), "a later variable of a greater degree": read(2, "1*x0 + 1*x1^9"),
	} {
		if !poly.Valid(p) {
			t.Errorf("%s is not valid", what)
		}
	}
	for what, p := range invalid() {
		if poly.Valid(p) {
			t.Errorf("%s is valid", what)
		}
	}
}

func TestConst(t *testing.T) {
	for _, n := range []int{0, 1, 3, 8} {
		for _, c := range []string{"1", "-7/3", "0", "18446744073709551616"} {
			got, e := poly.Const(n, number(c))
			same(t, "the constant "+c, got, e, read(n, c), api.OK)
		}
	}
	got, e := poly.Const(2, fromBigRat(power(maxBits-1)))
	same(t, "a constant of 200 words", got, e, monomial(power(maxBits-1)).poly(2), api.OK)
	got, e = poly.Const(2, fromBigRat(power(1-maxBits)))
	same(t, "a constant with a denominator of 200 words", got, e, monomial(power(1-maxBits)).poly(2), api.OK)
	for _, n := range []int{-1, 9, 1 << 40, -1 << 63} {
		for _, c := range []api.Rat{number("1"), number("0"), fromBigRat(power(maxBits))} {
			got, e := poly.Const(n, c)
			fails(t, "a constant in a wrong number of variables", got, e, api.ErrRange)
		}
	}
	for _, n := range []int{3, -1, 9} {
		for _, c := range invalidNumbers() {
			got, e := poly.Const(n, c)
			fails(t, "an invalid constant", got, e, api.ErrForm)
		}
	}
	for _, k := range []int{maxBits, -maxBits, 32*4096 - 1} {
		got, e := poly.Const(3, fromBigRat(power(k)))
		fails(t, "a long constant", got, e, api.ErrLimit)
	}
}

func TestVar(t *testing.T) {
	for n := 1; n <= 8; n++ {
		for i := range n {
			got, e := poly.Var(n, i)
			var exps key
			exps[i] = 1
			same(t, "a variable", got, e, monomial(power(0), exps[:]...).poly(n), api.OK)
		}
	}
	for _, c := range [][2]int{{0, 0}, {1, 1}, {8, 8}, {3, -1}, {-1, 0}, {9, 0}, {9, 8}, {-1, -2}, {0, -1}, {1 << 40, 5}, {5, 1 << 40}, {5, -1 << 63}} {
		got, e := poly.Var(c[0], c[1])
		fails(t, "a variable out of range", got, e, api.ErrRange)
	}
}

func TestEqual(t *testing.T) {
	texts := []string{"0", "1", "-1", "2", "1/2", "1*x0", "1*x1", "-1*x0", "1*x0^2", "1*x0 + 1", "1*x0 + 1*x1", "1*x0 + 1*x1 + 1", "1*x0 + 4294967296", "1*x0 + 4294967297"}
	for i, a := range texts {
		for k, b := range texts {
			got, e := poly.Equal(read(2, a), read(2, b))
			if got != (i == k) || e != api.OK {
				t.Errorf("Equal of %s and %s is %t, %d", a, b, got, e)
			}
		}
	}
	if got, e := poly.Equal(api.Poly{N: 2}, api.Poly{N: 2, Terms: []api.Mono{}}); !got || e != api.OK {
		t.Errorf("Equal of two zeros is %t, %d", got, e)
	}
	if got, e := poly.Equal(api.Poly{N: 2}, api.Poly{N: 3}); got || e != api.ErrRange {
		t.Errorf("Equal of zeros in 2 and 3 variables is %t, %d", got, e)
	}
	for what, p := range invalid() {
		for _, q := range []api.Poly{partner(p), read(5, "1"), p} {
			if got, e := poly.Equal(p, q); got || e != api.ErrForm {
				t.Errorf("Equal with %s is %t, %d", what, got, e)
			}
			if got, e := poly.Equal(q, p); got || e != api.ErrForm {
				t.Errorf("Equal with %s behind is %t, %d", what, got, e)
			}
		}
	}
}
