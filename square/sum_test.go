package square_test

import (
	"math/big"
	"slices"
	"strconv"
	"testing"

	"isochrone/api"
	"isochrone/poly"
	"isochrone/square"
)

// sumIs checks a result of Sum. With an error it must be zero.
func sumIs(t *testing.T, what string, list []api.Square, n int, want api.Poly, wantErr api.Errno) {
	t.Helper()
	got, e := square.Sum(list, n)
	if e != wantErr || !equalPolys(got, want) {
		t.Errorf("the sum of %s in %d variables is %s, %d, not %s, %d", what, n, brief(got), e, brief(want), wantErr)
	}
	if e == api.OK && !poly.Valid(got) {
		t.Errorf("the sum of %s is not valid", what)
	}
}

func TestSum(t *testing.T) {
	for _, c := range []struct {
		n    int
		list []api.Square
		want string
	}{
		{2, squares(2, "1 1*x"), "1*x^2"}, {2, squares(2, "2 1*x + -1*y"), "2*x^2 + -4*x*y + 2*y^2"}, {2, squares(2, "1 1*x + 1*y", "1 1*x + -1*y"), "2*x^2 + 2*y^2"}, {2, squares(2, "1/2 2*x + 1", "1/3 3*y", "5 2"), "2*x^2 + 2*x + 3*y^2 + 41/2"}, {0, squares(0, "3 1/2"), "3/4"},
		{1, squares(1, "0 1*x + 5"), "0"}, {1, squares(1, "0 1*x", "0 2", "0 0"), "0"}, {1, squares(1, "7 0"), "0"}, {1, squares(1, "0 1*x", "4 1"), "4"}, {3, squares(3, "1 1*x", "1 1*x", "1/2 1*x"), "5/2*x^2"}, {8, squares(8, "1/4 2*x7 + 4"), "1*x7^2 + 4*x7 + 4"}, {2, squares(2, "1 1*x^20", "1 1*y^20 + 1"), "1*x^40 + 1*y^40 + 2*y^20 + 1"},
		// The same with weights that have a factor in common, or none.
		{2, squares(2, "6 1*x", "10 1*y", "15 1"), "6*x^2 + 10*y^2 + 15"}, {2, squares(2, "2/15 1*x", "6/35 1*y", "10/21 1"), "2/15*x^2 + 6/35*y^2 + 10/21"}, {1, squares(1, "1/6 1*x", "1/10 1*x", "1/15 1*x", "2/3 1*x"), "1*x^2"},
	} {
		sumIs(t, briefSquares(c.list), c.list, c.n, read(c.n, c.want), api.OK)
	}
}

func TestSumOfNone(t *testing.T) {
	for n := -3; n <= 12; n++ {
		for _, list := range [][]api.Square{nil, {}} {
			if n < 0 || n > api.MaxVars {
				sumIs(t, "no squares", list, n, api.Poly{}, api.ErrForm)
			} else {
				sumIs(t, "no squares", list, n, api.Poly{N: n}, api.OK)
			}
		}
	}
}

func TestSumCount(t *testing.T) {
	for n := range api.MaxVars + 1 {
		twenty := slices.Repeat([]api.Square{sq(n, "1/3", "3")}, 20)
		sumIs(t, "20 squares", twenty, n, read(n, "60"), api.OK)
		sumIs(t, "21 squares", append(twenty, sq(n, "1", "1")), n, api.Poly{}, api.ErrForm)
		sumIs(t, "21 squares of zero", slices.Repeat([]api.Square{sq(n, "0", "0")}, 21), n, api.Poly{}, api.ErrForm)
	}
}

func TestSumForm(t *testing.T) {
	good := sq(1, "1", "1*x")
	fails := func(what string, bad api.Square, n int) {
		t.Helper()
		for _, list := range [][]api.Square{{bad}, {good, bad}, {bad, good}, {bad, sq(1, "1", "1*x^21")}} {
			sumIs(t, what, list, n, api.Poly{}, api.ErrForm)
		}
	}
	for _, n := range []int{-1, 0, 2, 8, 9} {
		sumIs(t, "a square in one variable", []api.Square{good}, n, api.Poly{}, api.ErrForm)
	}
	for n := range api.MaxVars + 1 {
		if n != 1 {
			fails("squares in other variables", sq(n, "1", "2"), 1)
			fails("zero in other variables", sq(n, "0", "0"), 1)
		}
	}
	for _, text := range []string{"-1", "-1/7", "-100"} {
		fails("a negative weight", sq(1, text, "1*x"), 1)
		fails("a negative weight of zero", sq(1, text, "0"), 1)
	}
	for _, x := range invalidNumbers() {
		fails("an invalid weight", api.Square{Weight: x, Poly: read(1, "1*x")}, 1)
	}
	for what, p := range invalidPolys() {
		fails(what, api.Square{Weight: number("1"), Poly: p}, max(0, min(p.N, 8)))
		fails(what, api.Square{Weight: number("0"), Poly: p}, p.N)
	}
}

func TestSumWords(t *testing.T) {
	for _, x := range []*big.Rat{most(20), inverse(most(20)), neg(most(20))} {
		p := monomial(x, 1).plus(parse("1"))
		sumIs(t, "20 words", []api.Square{{Weight: number("1"), Poly: p.poly(1)}}, 1, p.times(p).poly(1), api.OK)
		if x.Sign() > 0 {
			sumIs(t, "20 words", []api.Square{{Weight: fromBigRat(x), Poly: p.poly(1)}}, 1, p.times(p).scaled(x).poly(1), api.OK)
		}
	}
	for _, x := range longNumbers() {
		long := api.Square{Weight: number("1"), Poly: monomial(x, 1).plus(parse("1")).poly(1)}
		sumIs(t, "a long coefficient", []api.Square{long}, 1, api.Poly{}, api.ErrForm)
		long.Weight = number("0")
		sumIs(t, "a long coefficient with the weight 0", []api.Square{sq(1, "1", "1*x^21"), long}, 1, api.Poly{}, api.ErrForm)
		sumIs(t, "a long weight", []api.Square{{Weight: fromBigRat(x), Poly: read(1, "1*x")}}, 1, api.Poly{}, api.ErrForm)
		sumIs(t, "a long weight of zero", []api.Square{{Weight: fromBigRat(x), Poly: read(1, "0")}}, 1, api.Poly{}, api.ErrForm)
	}
}

func TestSumLimit(t *testing.T) {
	s := source(1)
	var long []api.Square
	fractions := table{}
	for i := range 12 {
		// What is added up has a denominator of more than 200 words in the end.
		long = append(long, api.Square{Weight: fromBigRat(s.long(20)), Poly: monomial(s.long(20), 1).poly(1)})
		fractions.add(key{i}, s.long(20))
	}
	many := manyTerms()
	for _, c := range []struct {
		what string
		n    int
		list []api.Square
		e    api.Errno
	}{
		{"degree 20", 1, squares(1, "1 1*x^20"), api.OK}, {"degree 21", 1, squares(1, "1 1*x^21"), api.ErrLimit}, {"degree 21 and the weight 0", 1, squares(1, "1 1*x", "0 1*x^21"), api.ErrLimit}, {"degree 21 in two variables", 2, squares(2, "1 1*x^20", "1 1*x^10*y^11"), api.ErrLimit}, {"degree 40", 8, squares(8, "1 1*x7^40"), api.ErrLimit},
		{"long squares", 1, long[:3], api.OK}, {"a long sum of squares", 1, long, api.ErrLimit}, {"a long square", 1, []api.Square{{Weight: number("1"), Poly: fractions.poly(1)}}, api.ErrLimit}, {"a long square and the weight 0", 1, []api.Square{{Weight: number("0"), Poly: fractions.poly(1)}}, api.ErrLimit},
		{"3003 terms", 8, many[:1], api.OK}, {"3003 other terms", 8, many[1:], api.OK}, {"too many terms together", 8, many, api.ErrLimit}, {"12870 terms", 8, []api.Square{{Weight: number("1"), Poly: dense(8, 4).poly(8)}}, api.ErrLimit}, {"12870 terms and the weight 0", 8, []api.Square{{Weight: number("0"), Poly: dense(8, 4).poly(8)}}, api.ErrLimit},
	} {
		got, e := square.Sum(c.list, c.n)
		if e != c.e {
			t.Errorf("the sum of squares of %s has error %d", c.what, e)
			continue
		}
		want := api.Poly{}
		if e == api.OK {
			want = sum(c.list).poly(c.n)
		}
		if !equalPolys(got, want) {
			t.Errorf("the sum of squares of %s is %s", c.what, brief(got))
		}
	}
}

// TestSumJustFits has sums that are just valid, or by one word or one term are not.
func TestSumJustFits(t *testing.T) {
	s := source(19)
	// The denominators have few factors in common.
	var long []api.Square
	for i := range 10 {
		long = append(long, api.Square{Weight: fromBigRat(inverse(minus(power(640), whole(2*i+1)))), Poly: read(1, "1*x")})
	}
	more := append(long, sq(1, "1/4294967291", "1*x"))
	for _, c := range []struct {
		list  []api.Square
		words int
		e     api.Errno
	}{{long, 200, api.OK}, {more, 201, api.ErrLimit}} {
		want := sum(c.list).poly(1)
		if words := len(want.Terms[0].Coef.Den); words != c.words {
			t.Fatalf("the denominator has %d words", words)
		}
		if c.e != api.OK {
			want = api.Poly{}
		}
		sumIs(t, "a sum with a long denominator", c.list, 1, want, c.e)
	}
	// 3003 terms, 990 others as no two products of 44 monomials are the same, and single ones.
	sparse := table{}
	for len(sparse) < 44 {
		var m key
		for range 20 {
			m[s.upTo(7)]++
		}
		sparse[m] = whole(1)
	}
	list := []api.Square{{Weight: number("1"), Poly: dense(8, 3).poly(8)}, {Weight: number("1"), Poly: sparse.poly(8)}}
	for i := range 8 {
		list = append(list, sq(8, "1", "1*x"+strconv.Itoa(i)+"^19"))
	}
	if count := len(sum(list)); count != 4001 {
		t.Fatalf("the sum has %d terms", count)
	}
	sumIs(t, "4000 terms", list[:9], 8, sum(list[:9]).poly(8), api.OK)
	sumIs(t, "4001 terms", list, 8, api.Poly{}, api.ErrLimit)
}

// manyTerms returns squares in 8 variables with 3003 terms each, of which few are the same ones.
func manyTerms() []api.Square {
	first := dense(8, 3)
	other := first.times(monomial(whole(1), 0, 0, 0, 0, 0, 0, 0, 2))
	return []api.Square{{Weight: number("1"), Poly: first.poly(8)}, {Weight: number("2"), Poly: other.poly(8)}}
}

// TestNumbersOnTheWayOfSum has sums that are valid, though parts of them are not.
func TestNumbersOnTheWayOfSum(t *testing.T) {
	s := source(2)
	var list, others []api.Square
	root := monomial(inverse(new(big.Rat).SetInt(s.odd(20))), 1)
	for range 10 {
		weight := inverse(new(big.Rat).SetInt(s.odd(20)))
		list = append(list, api.Square{Weight: fromBigRat(weight), Poly: root.poly(1)})
		others = append(others, api.Square{Weight: fromBigRat(minus(whole(1), weight)), Poly: root.poly(1)})
	}
	want := root.times(root).scaled(whole(10))
	sumIs(t, "opposite weights", append(list, others...), 1, want.poly(1), api.OK)
	sumIs(t, "the first ones", list, 1, api.Poly{}, api.ErrLimit)
	// Each square has a product of parts that cancels out in the end. Without that, there would be more than MaxTerms terms.
	p := dense(4, 4)
	want = table{}
	list, others = nil, nil
	for k := range 2 {
		q := table{}
		for i := range 40 {
			q.add(key{4: i % 3, 5: i / 3 % 3, 6: i / 9 % 3, 7: 4*k + i/27}, whole(1))
		}
		list = append(list, api.Square{Weight: number("1/2"), Poly: p.plus(q).poly(8)})
		others = append(others, api.Square{Weight: number("1/2"), Poly: p.plus(q.scaled(whole(-1))).poly(8)})
		want = want.plus(p.times(p)).plus(q.times(q))
	}
	sumIs(t, "sums and differences", append(list, others...), 8, want.poly(8), api.OK)
	sumIs(t, "the sums", list, 8, api.Poly{}, api.ErrLimit)
	sumIs(t, "a sum", list[:1], 8, sum(list[:1]).poly(8), api.OK)
}

func TestSumAgainstTables(t *testing.T) {
	s := source(3)
	for round := range 300 {
		n := round % 9
		var list []api.Square
		for range s.upTo(5) {
			weight := s.fraction()
			p := s.table(n, 1+s.upTo(6/max(1, n)), 5, s.fraction)
			list = append(list, api.Square{Weight: fromBigRat(weight.Abs(weight)), Poly: p.poly(n)})
		}
		sumIs(t, briefSquares(list), list, n, sum(list).poly(n), api.OK)
	}
}
