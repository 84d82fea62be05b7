package root_test

import (
	"testing"

	"isochrone/api"
	"isochrone/root"
)

// TestErrForm has each argument of each function that is not valid, together with arguments that would give another error.
func TestErrForm(t *testing.T) {
	one, zero, good := number("1"), []api.Rat(nil), read("-2 0 1")
	for name, c := range invalidLists() {
		for _, other := range [][]api.Rat{zero, good, c} {
			got, e := root.Add(c, other)
			fails(t, "Add of "+name, got, e, api.ErrForm)
			got, e = root.Add(other, c)
			fails(t, "Add to "+name, got, e, api.ErrForm)
			got, e = root.Mul(c, other)
			fails(t, "Mul of "+name, got, e, api.ErrForm)
			got, e = root.Mul(other, c)
			fails(t, "Mul by "+name, got, e, api.ErrForm)
			got, e = root.GCD(c, other)
			fails(t, "GCD of "+name, got, e, api.ErrForm)
			got, e = root.GCD(other, c)
			fails(t, "GCD with "+name, got, e, api.ErrForm)
			q, r, e := root.DivMod(c, other)
			fails(t, "the quotient of "+name, q, e, api.ErrForm)
			fails(t, "the remainder of "+name, r, e, api.ErrForm)
			q, r, e = root.DivMod(other, c)
			fails(t, "the quotient by "+name, q, e, api.ErrForm)
			fails(t, "the remainder by "+name, r, e, api.ErrForm)
		}
		got, e := root.Deriv(c)
		fails(t, "Deriv of "+name, got, e, api.ErrForm)
		got, e = root.SquareFree(c)
		fails(t, "SquareFree of "+name, got, e, api.ErrForm)
		x, e := root.Eval(c, one)
		sameNumber(t, "Eval of "+name, x, e, api.Rat{}, api.ErrForm)
		x, e = root.Bound(c)
		sameNumber(t, "Bound of "+name, x, e, api.Rat{}, api.ErrForm)
		n, e := root.Count(c, one, number("0"))
		sameInt(t, "Count of "+name, n, e, 0, api.ErrForm)
		list, e := root.Isolate(c)
		sameRoots(t, "Isolate of "+name, list, e, nil, api.ErrForm)
		n, e = root.Sign(c, rootOf("-2 0 1", "0", "3"))
		sameInt(t, "Sign of "+name, n, e, 0, api.ErrForm)
	}
	for name, x := range invalidNumbers() {
		for _, c := range [][]api.Rat{zero, good, read("3")} {
			got, e := root.Eval(c, x)
			sameNumber(t, "Eval at "+name, got, e, api.Rat{}, api.ErrForm)
			n, e := root.Count(c, x, one)
			sameInt(t, "Count from "+name, n, e, 0, api.ErrForm)
			n, e = root.Count(c, one, x)
			sameInt(t, "Count to "+name, n, e, 0, api.ErrForm)
			n, e = root.Count(c, x, x)
			sameInt(t, "Count from and to "+name, n, e, 0, api.ErrForm)
		}
	}
}

func TestErrFormOfRoots(t *testing.T) {
	two := rootOf("-2 0 1", "0", "3")
	for name, r := range invalidRoots() {
		got, e := root.Halve(r)
		sameRoot(t, "Halve of "+name, got, e, api.Root{}, api.ErrForm)
		for _, c := range [][]api.Rat{nil, read("1 1"), read("0")} {
			n, e := root.Sign(c, r)
			sameInt(t, "Sign at "+name, n, e, 0, api.ErrForm)
		}
		for _, other := range []api.Root{two, r, {}} {
			n, e := root.Cmp(r, other)
			sameInt(t, "Cmp of "+name, n, e, 0, api.ErrForm)
			n, e = root.Cmp(other, r)
			sameInt(t, "Cmp with "+name, n, e, 0, api.ErrForm)
			x, e := root.Between(r, other)
			sameNumber(t, "Between of "+name, x, e, api.Rat{}, api.ErrForm)
			x, e = root.Between(other, r)
			sameNumber(t, "Between with "+name, x, e, api.Rat{}, api.ErrForm)
		}
	}
}

// TestLongestArguments has lists of 41 numbers of 200 words: whatever the result is, they are valid.
func TestLongestArguments(t *testing.T) {
	s := source(18)
	c := s.integers(40, maxBits).list()
	x := fromBigRat(s.long(maxBits))
	_, e := root.Eval(c, x)
	_, f := root.Add(c, read("1 1"))
	_, g := root.Mul(c, read("1"))
	_, _, h := root.DivMod(c, c)
	if e != api.ErrLimit || f != api.OK || g != api.OK || h != api.OK {
		t.Errorf("errors %d, %d, %d, %d", e, f, g, h)
	}
	got, e := root.GCD(c, read("1 1"))
	same(t, "GCD", got, e, read("1"), api.OK)
	if n, e := root.Count(c, number("-1/2"), number("2")); n < 0 || n > 40 || e != api.OK {
		t.Errorf("Count is %d, %d", n, e)
	}
	if n, e := root.Sign(c, rootOf("-2 0 1", "0", "3")); n*n != 1 || e != api.OK {
		t.Errorf("Sign is %d, %d", n, e)
	}
	r := api.Root{Poly: coefs{neg(toBigRat(x)), whole(1)}.list(), Lo: x, Hi: x}
	if n, e := root.Sign(c, r); n*n != 1 || e != api.OK {
		t.Errorf("Sign at a long number is %d, %d", n, e)
	}
}
