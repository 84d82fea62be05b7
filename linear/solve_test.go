package linear_test

import (
	"math/big"
	"slices"
	"testing"

	"isochrone/api"
	"isochrone/linear"
)

// box returns the lines of a box of the given half width around zero.
func box(n int, size string) []api.Line {
	var list []api.Line
	for i := range n {
		for _, sign := range []string{"1", "-1"} {
			l := line(zeros(n) + "<= " + size)
			l.Coefs[i] = number(sign)
			list = append(list, l)
		}
	}
	return list
}

func TestSolve(t *testing.T) {
	cases := []struct {
		n     int
		lines []api.Line
		want  bool
	}{
		{0, nil, true}, {1, nil, true}, {3, nil, true},
		{0, lines("= 0", "<= 0", "< 1"), true}, {0, lines("= 0", "< 0"), false}, {0, lines("= 1"), false}, {0, lines("= -1/2"), false}, {0, lines("<= -1"), false}, {0, lines("<= 3", "<= 0"), true},
		{3, lines("0 0 0 <= -1"), false}, {3, lines("0 0 0 < 0"), false}, {3, lines("0 0 0 = 7"), false}, {3, lines("0 0 0 = 0"), true},
		{1, lines("1 <= 1", "-1 <= -1"), true}, {1, lines("1 < 1", "-1 <= -1"), false}, {1, lines("1 <= 1", "-1 < -1"), false}, {1, lines("1 < 1", "-1 < -1"), false}, {1, lines("1 <= 1", "-1 <= -2"), false}, {1, lines("1 < 1", "-1 < -99/100"), true},
		{1, lines("1 < 0"), true}, {1, lines("-1 < 0"), true}, {1, lines("-1 < -1/3"), true}, {1, lines("3 = 1", "5 <= 2"), true}, {1, lines("3 = 1", "5 < 5/3"), false}, {1, lines("3 = 1", "7 = 2"), false}, {1, lines("3 = 1", "6 = 2"), true}, {1, lines("3 = 1", "-6 = -2"), true},
		{2, lines("1 1 = 3", "1 -1 = 1"), true}, {2, lines("1 1 = 3", "2 2 = 6"), true}, {2, lines("1 1 = 3", "2 2 = 7"), false}, {2, lines("1 1 = 3", "1 -1 = 1", "2 3 = 7"), true}, {2, lines("1 1 = 3", "1 -1 = 1", "2 3 < 7"), false}, {2, lines("1 1 = 3", "1 -1 = 1", "-2 -3 < -7"), false}, {2, lines("1 1 = 3", "1 -1 = 1", "2 3 = 8"), false},
		// A triangle, with and without its border and points.
		{2, lines("1 1 <= 1", "-1 0 <= 0", "0 -1 <= 0"), true}, {2, lines("1 1 < 1", "-1 0 < 0", "0 -1 < 0"), true}, {2, lines("1 1 <= 0", "-1 0 <= 0", "0 -1 <= 0"), true}, {2, lines("1 1 < 0", "-1 0 <= 0", "0 -1 <= 0"), false}, {2, lines("1 1 <= 0", "-1 0 < 0", "0 -1 <= 0"), false}, {2, lines("1 1 <= -1/100", "-1 0 <= 0", "0 -1 <= 0"), false},
		{3, lines("1 1 1 <= 1", "-1 0 0 <= 0", "0 -1 0 <= 0", "0 0 -1 <= -1"), true}, {3, lines("1 1 1 <= 1", "-1 0 0 <= 0", "0 -1 0 <= 0", "0 0 -1 < -1"), false}, {3, lines("1 1 1 < 1", "-1 0 0 < 0", "0 -1 0 < 0", "0 0 -1 < -99/100"), true}, {3, lines("1 1 1 <= 1", "-1 0 0 <= -1/2", "0 -1 0 <= -1/3", "0 0 -1 <= -1/5"), false},
		// A line along which two lines touch, and a strict one beside it.
		{3, lines("1 2 3 <= 4", "-1 -2 -3 <= -4", "1 0 0 < 5"), true}, {3, lines("1 2 3 <= 4", "-1 -2 -3 < -4"), false}, {3, lines("1 2 3 = 4", "1 2 3 < 4"), false}, {3, lines("1 2 3 = 4", "0 1 1 = 1", "1 1 2 <= 3"), true}, {3, lines("1 2 3 = 4", "0 1 1 = 1", "1 1 2 < 3"), false}, {3, lines("1 2 3 = 4", "0 1 1 = 1", "1 1 2 = 3"), true}, {3, lines("1 2 3 = 4", "0 1 1 = 1", "1 1 2 = 4"), false},
		{3, slices.Repeat(lines("1 1 1 <= 1"), 10), true}, {3, with(slices.Repeat(lines("1 1 1 <= 1"), 9), line("-1 -1 -1 < -1")), false},
		{2, lines("0 1 <= 0", "0 -1 <= -1", "1 0 <= 0"), false}, {3, with(box(3, "1"), lines("1 1 1 = 3")...), true}, {3, with(box(3, "1"), lines("1 1 1 < -3")...), false},
	}
	for _, c := range cases {
		if got := has(t, c.n, c.lines); got != c.want {
			t.Errorf("%s has a point: %t", briefLines(c.lines), got)
		}
	}
}

// TestSolveOnePoint has systems with one point alone.
func TestSolveOnePoint(t *testing.T) {
	cases := []struct {
		lines []api.Line
		want  string
	}{
		{lines("2 = 1"), "1/2"}, {lines("1 <= 2/7", "-7 <= -2"), "2/7"}, {lines("1 1 = 3", "1 -1 = 1"), "2 1"}, {lines("1 1 <= 3", "1 -1 <= 1", "-1 0 <= -2"), "2 1"},
		{lines("1 1 1 <= 6", "-1 0 0 <= -1", "0 -1 0 <= -2", "0 0 -1 <= -3"), "1 2 3"}, {lines("1 1 1 = 6", "1 -1 0 = -1", "0 2 -1 <= 1", "0 -4 2 <= -2", "1 0 1 <= 4", "-1 0 -1 <= -4"), "1 2 3"},
		{lines("0 0 1 = 1/3", "0 1 1 = 1/2", "1 1 1 = -3/4"), "-5/4 1/6 1/3"},
	}
	for _, c := range cases {
		point, ok := solved(t, len(read(c.want)), c.lines)
		if !ok || !equalLists(point, read(c.want)) {
			t.Errorf("the point of %s is %s, not %s", briefLines(c.lines), briefList(point), c.want)
		}
	}
}

// TestSolveNoVariables: without variables, only Holds tells a system that is satisfied from one without lines.
func TestSolveNoVariables(t *testing.T) {
	for _, list := range [][]api.Line{nil, {}, lines("<= 0"), lines("= 0", "< 1/2")} {
		point, refutation, e := linear.Solve(0, list)
		if len(point) != 0 || refutation != nil || e != api.OK {
			t.Errorf("Solve of %s is %s, %s, %d", briefLines(list), briefList(point), briefList(refutation), e)
		}
	}
	point, refutation, e := linear.Solve(0, lines("<= 1", "< 0"))
	if point != nil || len(refutation) != 2 || e != api.OK {
		t.Errorf("Solve of 0 < 0 is %s, %s, %d", briefList(point), briefList(refutation), e)
	}
}

func TestSolveRandom(t *testing.T) {
	s := source(1)
	points, refutations := 0, 0
	for range 6000 {
		n := s.upTo(3)
		if has(t, n, s.system(n, s.upTo(10))) {
			points++
		} else {
			refutations++
		}
	}
	if points < 1000 || refutations < 1000 {
		t.Errorf("%d points and %d refutations", points, refutations)
	}
}

// TestSolveAroundPoint has systems made around a point, most lines of which are just satisfied by it.
func TestSolveAroundPoint(t *testing.T) {
	s := source(6)
	for range 3000 {
		n := 1 + s.upTo(2)
		var point []api.Rat
		for range n {
			point = append(point, fromBigRat(s.fraction()))
		}
		list := s.system(n, 1+s.upTo(9))
		for k, l := range list {
			c := sum(l.Coefs, point)
			if l.Rel == 2 {
				c = plus(c, power(-s.upTo(60)))
			}
			list[k].Const = fromBigRat(c)
		}
		if !has(t, n, list) {
			t.Errorf("%s has no point, but %s satisfies it", briefLines(list), briefList(point))
		}
	}
}

// TestSolveSums has systems with a line that contradicts a sum of others, just so or by little.
func TestSolveSums(t *testing.T) {
	s := source(7)
	for range 3000 {
		n := 1 + s.upTo(2)
		list := s.system(n, 1+s.upTo(8))
		total := lineOf(1, whole(0), slices.Repeat([]*big.Rat{whole(0)}, n)...)
		for _, l := range list {
			x := big.NewRat(int64(s.upTo(2)), int64(1+s.upTo(2)))
			for i, c := range l.Coefs {
				total.Coefs[i] = fromBigRat(minus(toBigRat(total.Coefs[i]), times(x, toBigRat(c))))
			}
			total.Const = fromBigRat(minus(toBigRat(total.Const), times(x, toBigRat(l.Const))))
		}
		total.Rel = 2
		if s.upTo(1) == 0 {
			total.Rel = 1
			total.Const = fromBigRat(minus(toBigRat(total.Const), power(-s.upTo(100))))
		}
		if has(t, n, append(list, total)) {
			t.Errorf("%s has a point", briefLines(append(list, total)))
		}
	}
}

// longSystem returns a system whose numbers have 20 words each and no factors in common.
func (s *source) longSystem(n, count int) []api.Line {
	coef := func() *big.Rat { return s.long(lineBits) }
	list := make([]api.Line, count)
	for k := range list {
		list[k] = s.line(n, coef, coef)
	}
	return list
}

// TestSolveLongNumbers: with numbers of 20 words, refutations have at most 200 words, and so have points where there is a choice.
func TestSolveLongNumbers(t *testing.T) {
	s := source(8)
	points, refutations := 0, 0
	for round := range 120 {
		n := 1 + round%3
		list := s.longSystem(n, 1+s.upTo(9))
		equations := 0
		for k := range list {
			if list[k].Rel == 0 {
				equations++
			}
			if equations >= n {
				list[k].Rel = 1
			}
		}
		if has(t, n, list) {
			points++
		} else {
			refutations++
		}
	}
	if points < 20 || refutations < 20 {
		t.Errorf("%d points and %d refutations", points, refutations)
	}
}

// TestSolveLongRefutations has systems whose only refutation, up to its size, needs all lines, of 20 words each. The first n of them allow positive numbers alone, as in each of them one coefficient is greater than the others together, and the last one allows none.
func TestSolveLongRefutations(t *testing.T) {
	s := source(9)
	for n := 1; n <= 3; n++ {
		var list []api.Line
		for k := range n + 1 {
			l := api.Line{Rel: 1 + s.upTo(1), Const: fromBigRat(s.ratio(lineBits, lineBits))}
			l.Const.Neg = true
			for i := range n {
				c := fromBigRat(s.ratio(lineBits, lineBits))
				if k == i {
					c = negated(fromBigRat(s.ratio(lineBits, lineBits-4)))
				}
				l.Coefs = append(l.Coefs, c)
			}
			list = append(list, l)
		}
		if has(t, n, list) {
			t.Errorf("a system of %d lines has a point", n+1)
		}
		for k := range list {
			if !has(t, n, slices.Delete(slices.Clone(list), k, k+1)) {
				t.Errorf("the system has no point without line %d of %d", k, n+1)
			}
		}
		for k := range list {
			list[k].Rel = 0
			list[k].Coefs[0].Neg = s.upTo(1) == 1
		}
		if has(t, n, list) {
			t.Errorf("a system of %d equations has a point", n+1)
		}
	}
}

// TestSolveOneLongPoint: a system of three equations may have one point alone, with more words than a point may have.
func TestSolveOneLongPoint(t *testing.T) {
	s := source(10)
	for n := 1; n <= 3; n++ {
		list := s.longSystem(n, n)
		for k := range list {
			list[k].Rel = 0
		}
		point, refutation, e := linear.Solve(n, list)
		if len(refutation) != 0 || e != api.OK || len(point) != n || !isOnAll(list, point) {
			t.Errorf("the point of %d equations is %s, %d", n, briefList(point), e)
		}
	}
}

// TestSolveShortPoint: where there is a choice, the numbers are simple ones.
func TestSolveShortPoint(t *testing.T) {
	cases := []struct {
		lines []api.Line
		want  string
	}{
		{lines("1 <= 5"), "0"}, {lines("1 <= -5"), "-5"}, {lines("1 < -5"), "-6"}, {lines("-1 <= -7/2"), "4"}, {lines("-1 < -4"), "5"}, {lines("-1 <= 4"), "0"}, {lines("1 < 1", "-1 < 0"), "1/2"}, {lines("1 <= 1", "-1 < 0"), "1"}, {lines("1 < 1", "-1 <= 0"), "0"},
		{lines("1 < 7/10", "-1 < -3/5"), "2/3"}, {lines("1 <= 7/10", "-1 <= -7/10"), "7/10"}, {lines("1 < -3/5", "-1 < 7/10"), "-2/3"}, {lines("-1 < 0"), "1"}, {lines("1 < 0"), "-1"}, {lines("1 <= 5/2", "-1 <= -2"), "2"}, {lines("1 <= -2", "-1 <= 5/2"), "-2"},
	}
	for _, c := range cases {
		point, ok := solved(t, 1, c.lines)
		if !ok || !equalLists(point, read(c.want)) {
			t.Errorf("the point of %s is %s, not %s", briefLines(c.lines), briefList(point), c.want)
		}
	}
}
