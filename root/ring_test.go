package root_test

import (
	"math/big"
	"testing"

	"isochrone/api"
	"isochrone/root"
)

func TestEval(t *testing.T) {
	for _, c := range []struct{ c, x, want string }{
		{"", "7", "0"}, {"5", "1/3", "5"}, {"1 2 3", "0", "1"}, {"1 2 3", "2", "17"}, {"1 2 3", "-1/2", "3/4"}, {"-2 0 1", "3/2", "1/4"}, {"1/2 1/3 0 1/6", "-2", "-3/2"}, {"-1 1", "1", "0"},
	} {
		got, e := root.Eval(read(c.c), number(c.x))
		sameNumber(t, "the value of "+c.c+" at "+c.x, got, e, number(c.want), api.OK)
	}
	s := source(1)
	for range 600 {
		p, x := s.coefs(s.upTo(12)), s.fraction()
		if s.upTo(9) == 0 {
			x = s.long(1 + s.upTo(300))
		}
		got, e := root.Eval(p.list(), fromBigRat(x))
		sameNumber(t, "the value of "+briefList(p.list()), got, e, fromBigRat(p.eval(x)), api.OK)
	}
}

// TestEvalLimit has values of 4096 words and of one more, and long numbers on the way to short ones.
func TestEvalLimit(t *testing.T) {
	// (2^3276)^40 is 2^131040.
	for _, c := range []struct {
		factor int
		want   api.Errno
	}{{31, api.OK}, {32, api.ErrLimit}} {
		want := api.Rat{}
		if c.want == api.OK {
			want = fromBigRat(power(131040 + c.factor))
		}
		got, e := root.Eval(monomial(power(c.factor), 40).list(), fromBigRat(power(3276)))
		sameNumber(t, "a great value", got, e, want, c.want)
		if c.want == api.OK {
			want = fromBigRat(power(-131040 - c.factor))
		}
		got, e = root.Eval(monomial(power(-c.factor), 40).list(), fromBigRat(power(-3276)))
		sameNumber(t, "a small value", got, e, want, c.want)
	}
	s := source(2)
	x := s.long(maxBits)
	p := monomial(whole(1), 39).times(coefs{neg(x), whole(1)}).plus(parse("5/3"))
	got, e := root.Eval(p.list(), fromBigRat(x))
	sameNumber(t, "a value that is short in the end", got, e, number("5/3"), api.OK)
	got, e = root.Eval(p.list(), number("1"))
	sameNumber(t, "a value with one long number", got, e, fromBigRat(plus(fraction("8/3"), neg(x))), api.OK)
}

func TestAdd(t *testing.T) {
	for _, c := range []struct{ a, b, want string }{
		{"", "", ""}, {"1 2", "", "1 2"}, {"1 2", "3", "4 2"}, {"1 2 3", "1 2 -3", "2 4"}, {"1 2 3", "-1 -2 -3", ""}, {"0 0 1", "0 1", "0 1 1"}, {"1/2", "1/3", "5/6"}, {"1 1 1", "5 0 -1", "6 1"},
	} {
		got, e := root.Add(read(c.a), read(c.b))
		same(t, c.a+" + "+c.b, got, e, read(c.want), api.OK)
		got, e = root.Add(read(c.b), read(c.a))
		same(t, c.b+" + "+c.a, got, e, read(c.want), api.OK)
	}
	half, all := monomial(power(maxBits-2), 3), monomial(power(maxBits-1), 3)
	got, e := root.Add(half.list(), half.list())
	same(t, "a sum of 200 words", got, e, all.list(), api.OK)
	got, e = root.Add(all.list(), all.list())
	fails(t, "a sum of 201 words", got, e, api.ErrLimit)
	got, e = root.Add(all.list(), all.scaled(whole(-1)).list())
	same(t, "a difference of long numbers", got, e, nil, api.OK)
	third, fifth := monomial(over(whole(1), minus(power(3201), whole(1))), 0), monomial(over(whole(1), plus(power(3201), whole(1))), 0)
	got, e = root.Add(third.list(), fifth.list())
	fails(t, "a sum with a denominator of 201 words", got, e, api.ErrLimit)
}

func TestMul(t *testing.T) {
	for _, c := range []struct{ a, b, want string }{
		{"", "", ""}, {"1 2", "", ""}, {"2", "1 -1/2", "2 -1"}, {"1 1", "-1 1", "-1 0 1"}, {"1 1", "1 1", "1 2 1"}, {"0 1", "0 0 3", "0 0 0 3"}, {"1/2 1/3", "6 6", "3 5 2"},
	} {
		got, e := root.Mul(read(c.a), read(c.b))
		same(t, c.a+" * "+c.b, got, e, read(c.want), api.OK)
		got, e = root.Mul(read(c.b), read(c.a))
		same(t, c.b+" * "+c.a, got, e, read(c.want), api.OK)
	}
	top := monomial(whole(3), 40).list()
	got, e := root.Mul(top, read("2"))
	same(t, "a product of degree 40", got, e, monomial(whole(6), 40).list(), api.OK)
	got, e = root.Mul(top, nil)
	same(t, "degree 40 times zero", got, e, nil, api.OK)
	got, e = root.Mul(top, read("0 1"))
	fails(t, "a product of degree 41", got, e, api.ErrLimit)
	got, e = root.Mul(top, top)
	fails(t, "a product of degree 80", got, e, api.ErrLimit)
	got, e = root.Mul(monomial(whole(1), 20).list(), monomial(whole(1), 20).list())
	same(t, "degree 20 + 20", got, e, monomial(whole(1), 40).list(), api.OK)
	long := monomial(power(3200), 1).list()
	got, e = root.Mul(long, monomial(power(3199), 1).list())
	same(t, "a product of 200 words", got, e, monomial(power(6399), 2).list(), api.OK)
	got, e = root.Mul(long, long)
	fails(t, "a product of 201 words", got, e, api.ErrLimit)
	got, e = root.Mul(monomial(power(-3200), 1).list(), monomial(power(-3200), 0).list())
	fails(t, "a product with a denominator of 201 words", got, e, api.ErrLimit)
}

func TestDivMod(t *testing.T) {
	for _, c := range []struct{ a, b, q, r string }{
		{"", "5", "", ""}, {"1 2 3", "2", "1/2 1 3/2", ""}, {"-1 0 1", "1 1", "-1 1", ""}, {"1 0 1", "1 1", "-1 1", "2"}, {"1 1", "1 0 1", "", "1 1"}, {"1 2 3", "1 2 3", "1", ""}, {"0 0 0 1", "0 2", "0 0 1/2", ""}, {"5 4 3 2 1", "1 0 2", "5/4 1 1/2", "15/4 3"}, {"3", "7", "3/7", ""},
	} {
		q, r, e := root.DivMod(read(c.a), read(c.b))
		same(t, "the quotient of "+c.a+" by "+c.b, q, e, read(c.q), api.OK)
		same(t, "the remainder of "+c.a+" by "+c.b, r, e, read(c.r), api.OK)
	}
	s := source(3)
	for range 600 {
		a, b := s.coefs(s.upTo(14)), s.coefs(s.upTo(9))
		if len(b) == 0 {
			continue
		}
		q, r, e := root.DivMod(a.list(), b.list())
		wantQ, wantR := a.divMod(b)
		same(t, "the quotient", q, e, wantQ.list(), api.OK)
		same(t, "the remainder", r, e, wantR.list(), api.OK)
	}
}

func TestDivModErrors(t *testing.T) {
	for _, a := range []string{"", "1", "1 2 3"} {
		q, r, e := root.DivMod(read(a), nil)
		fails(t, "a quotient by zero", q, e, api.ErrZero)
		fails(t, "a remainder by zero", r, e, api.ErrZero)
	}
	check := func(what string, a, b coefs, want api.Errno) {
		t.Helper()
		q, r, e := root.DivMod(a.list(), b.list())
		if e != want || e != api.OK && (len(q) > 0 || len(r) > 0) {
			t.Errorf("%s has error %d and %d, %d numbers", what, e, len(q), len(r))
		}
		if e == api.OK {
			wantQ, wantR := a.divMod(b)
			same(t, what, q, e, wantQ.list(), api.OK)
			same(t, what, r, e, wantR.list(), api.OK)
		}
	}
	check("a quotient of 200 words", monomial(power(6398), 1), parse("0 1/2"), api.OK)
	check("a quotient of 201 words", monomial(power(6399), 1), parse("0 1/2"), api.ErrLimit)
	check("a later number of the quotient of 201 words", parse("0 0 1"), coefs{power(6399), fraction("1/4")}, api.ErrLimit)
	check("a remainder of 200 words", parse("0 0 1"), coefs{power(3199), whole(1)}, api.OK)
	check("a remainder of 201 words", parse("0 0 1"), coefs{power(3200), whole(1)}, api.ErrLimit)
	s := source(4)
	long, short := make(coefs, 21), s.coefs(17)
	den := s.odd(6300)
	for i := range long {
		long[i] = new(big.Rat).SetFrac(s.odd(6300), den)
	}
	check("a product of long numbers", long.times(parse("1 0 0 0 0 0 0 -2 1")), long, api.OK)
	check("long numbers and a remainder", long.times(parse("1 0 3 -2 1")).plus(short), long, api.OK)
	check("long numbers by others", long.times(parse("1 0 3 -2 1")), append(long[:20:20], s.long(6400)), api.ErrLimit)
}

func TestDeriv(t *testing.T) {
	for _, c := range []struct{ c, want string }{{"", ""}, {"5", ""}, {"5 1/2", "1/2"}, {"1 2 3", "2 6"}, {"0 0 0 1/3", "0 0 1"}, {"7 0 -1", "0 -2"}} {
		got, e := root.Deriv(read(c.c))
		same(t, "the derivative of "+c.c, got, e, read(c.want), api.OK)
	}
	top := monomial(whole(1), 40)
	got, e := root.Deriv(top.list())
	same(t, "the derivative of degree 40", got, e, top.deriv().list(), api.OK)
	long := monomial(power(maxBits-2), 2)
	got, e = root.Deriv(long.list())
	same(t, "a derivative of 200 words", got, e, long.deriv().list(), api.OK)
	got, e = root.Deriv(monomial(power(maxBits-1), 2).list())
	fails(t, "a derivative of 201 words", got, e, api.ErrLimit)
	got, e = root.Deriv(coefs{power(maxBits - 1), power(maxBits - 1)}.list())
	same(t, "the derivative of long numbers", got, e, coefs{power(maxBits - 1)}.list(), api.OK)
}
