package poly_test

import (
	"math/big"
	"strings"
	"testing"

	"isochrone/api"
	"isochrone/poly"
)

func TestText(t *testing.T) {
	for _, c := range []struct {
		n    int
		text string
	}{
		{0, "0"}, {8, "0"}, {0, "1"}, {0, "-7/3"}, {3, "5"}, {1, "1*x0"}, {1, "-1*x0"}, {2, "1*x1"}, {2, "1*x0^2 + -1/2*x1 + 3"}, {3, "1/2*x0*x1*x2 + -4*x0*x2^3"}, {8, "1*x0^40 + -1*x7^40"}, {8, "1*x0^5*x1^5*x2^5*x3^5*x4^5*x5^5*x6^5*x7^5 + 1*x6*x7"},
		{1, "1*x0^12 + 1*x0^11 + 1*x0^10 + 1*x0^2 + 1*x0 + -1"}, {2, "18446744073709551616*x0 + -1/18446744073709551616*x1"},
	} {
		if got, e := poly.Text(read(c.n, c.text)); got != c.text || e != api.OK {
			t.Errorf("Text of %s is %q, %d", c.text, got, e)
		}
	}
	for what, p := range invalid() {
		if got, e := poly.Text(p); got != "" || e != api.ErrForm {
			t.Errorf("Text of %s is %q, %d", what, got, e)
		}
	}
	longest := power(maxBits - 1)
	want := longest.RatString() + "*x0 + -1/" + longest.RatString()
	p := monomial(longest, 1).plus(monomial(new(big.Rat).Neg(power(1 - maxBits))))
	if got, e := poly.Text(p.poly(1)); got != want || e != api.OK {
		t.Errorf("Text of long coefficients has %d bytes, %d", len(got), e)
	}
	text, e := poly.Text(filled(api.MaxTerms).poly(8))
	if e != api.OK || strings.Count(text, " + ") != api.MaxTerms-1 || !equal(read(8, text), filled(api.MaxTerms).poly(8)) {
		t.Errorf("Text of MaxTerms terms has %d bytes, %d", len(text), e)
	}
}

func TestTextAgainstTables(t *testing.T) {
	s := source(8)
	for range 300 {
		n := s.upTo(8)
		p := s.sparse(n, s.upTo(9), 40/max(n, 1)).poly(n)
		text, e := poly.Text(p)
		if e != api.OK {
			t.Fatalf("Text of %s is error %d", brief(p), e)
		}
		same(t, "what Text writes as "+text, read(n, text), api.OK, p, api.OK)
	}
}
