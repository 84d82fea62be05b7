package linear_test

import (
	"math"
	"math/big"
	"slices"
	"testing"

	"isochrone/api"
	"isochrone/linear"
)

// projected calls Project and checks the form of what it returns.
func projected(t *testing.T, n int, list []api.Line, i int) []api.Line {
	t.Helper()
	got, e := linear.Project(n, list, i)
	if e != api.OK || linear.Check(n, got) != api.OK {
		t.Fatalf("Project of %s by %d is %s, %d", briefLines(list), i, briefLines(got), e)
	}
	for _, l := range got {
		if toBigRat(l.Coefs[i]).Sign() != 0 {
			t.Errorf("Project of %s by %d is %s", briefLines(list), i, briefLines(got))
		}
	}
	return got
}

// denials returns lines such that each point that does not satisfy a line satisfies one of them.
func denials(l api.Line) []api.Line {
	m := opposite(l)
	switch l.Rel {
	case 0:
		l.Rel, m.Rel = 2, 2
		return []api.Line{l, m}
	case 1:
		m.Rel = 2
	case 2:
		m.Rel = 1
	}
	return []api.Line{m}
}

// follows reports whether each point that satisfies the lines satisfies l.
func follows(t *testing.T, n int, list []api.Line, l api.Line) bool {
	t.Helper()
	for _, m := range denials(l) {
		if has(t, n, with(list, m)) {
			return false
		}
	}
	return true
}

// fixed returns equations that give all variables but one a value.
func fixed(point []api.Rat, free int) []api.Line {
	var list []api.Line
	for k, x := range point {
		if k != free {
			l := line(zeros(len(point)) + "= 0")
			l.Coefs[k], l.Const = number("1"), x
			list = append(list, l)
		}
	}
	return list
}

// checkProject checks that the projection follows from the system, and that points have a coordinate i exactly if they satisfy the projection.
func checkProject(t *testing.T, n int, list []api.Line, i int, points [][]api.Rat) {
	t.Helper()
	got := projected(t, n, list, i)
	for _, l := range got {
		if !follows(t, n, list, l) {
			t.Errorf("of %s, Project of %s by %d, a line does not follow", briefLines(got), briefLines(list), i)
		}
	}
	if point, ok := solved(t, n, got[:min(10, len(got))]); ok && len(got) <= 10 {
		points = append(points, point)
	}
	for _, point := range points {
		if isOnAll(got, point) != has(t, n, with(list, fixed(point, i)...)) {
			t.Errorf("Project of %s by %d is %s, which is wrong at %s", briefLines(list), i, briefLines(got), briefList(point))
		}
	}
}

// grid returns the points with coordinates from -2 to 2 by halves in all variables but one.
func grid(n, free int) [][]api.Rat {
	points := [][]api.Rat{make([]api.Rat, n)}
	for k := range n {
		values := read("-2 -3/2 -1 -1/2 0 1/2 1 3/2 2")
		if k == free {
			values = read("0")
		}
		var next [][]api.Rat
		for _, p := range points {
			for _, x := range values {
				q := slices.Clone(p)
				q[k] = x
				next = append(next, q)
			}
		}
		points = next
	}
	return points
}

func TestProject(t *testing.T) {
	cases := []struct {
		n     int
		lines []api.Line
		i     int
	}{
		{1, nil, 0}, {3, nil, 2}, {1, lines("1 <= 1"), 0}, {1, lines("1 = 1"), 0}, {1, lines("1 <= 1", "-1 <= -1"), 0}, {1, lines("1 < 1", "-1 <= -1"), 0}, {1, lines("0 < 0"), 0},
		{2, lines("1 1 <= 1", "-1 0 <= 0", "0 -1 <= 0"), 0}, {2, lines("1 1 <= 1", "-1 0 <= 0", "0 -1 <= 0"), 1}, {2, lines("1 1 < 1", "-1 0 <= 0", "0 -1 <= 0"), 0}, {2, lines("1 1 <= 1", "-1 0 < 0", "0 -1 < 0"), 1}, {2, lines("1 1 < 1", "-1 0 < 0", "0 -1 <= -1/2"), 0},
		{2, lines("1 2 = 1", "-1 0 < 0", "0 1 <= 1"), 0}, {2, lines("1 2 = 1", "-1 0 < 0", "0 1 <= 1"), 1}, {2, lines("2 3 = 1", "4 6 = 2"), 0}, {2, lines("2 3 = 1", "4 6 = 3"), 0}, {2, lines("2 3 = 1", "-4 -6 = -2", "1 1 <= 0"), 1}, {2, lines("0 3 = 1", "2 0 = 1"), 0},
		// A variable that no line has, and a system in which it bounds nothing.
		{2, lines("0 1 <= 1", "0 -2 < 1"), 0}, {2, lines("0 1 <= 1", "0 -2 < 1"), 1}, {3, lines("1 0 1 <= 1", "-1 0 1 = 0"), 1}, {2, lines("1 1 <= 1", "2 -1 <= 1", "1 0 < 7"), 0}, {2, lines("-1 1 <= 1", "-1 -1 < 1"), 0},
		// A line that holds nowhere.
		{2, lines("0 0 < 0"), 0}, {2, lines("0 0 = 1", "1 1 <= 1"), 1}, {2, lines("1 0 <= 0", "-1 0 <= -1"), 0}, {2, lines("1 1 <= 0", "-1 -1 <= -1", "0 1 <= 1"), 1}, {3, lines("1 2 3 < 0", "-1 -2 -3 <= 0"), 2}, {3, lines("1 0 0 = 1", "1 0 0 = 2", "0 1 1 <= 0"), 0}, {2, lines("0 1 <= 0", "0 -1 <= -1", "1 0 <= 0"), 0},
		{3, with(box(3, "1"), lines("1 1 1 <= 1", "-1 -1 1 < 1")...), 2}, {3, lines("1 1 1 <= 2", "1 -1 1 < 1", "-1 1 1 <= 1", "-1 -1 1 <= 2", "0 0 -1 <= 0"), 2}, {3, lines("1 1 1 <= 2", "1 -1 1 < 1", "-1 1 1 <= 1", "-1 -1 1 <= 2", "0 0 -1 <= 0"), 0},
	}
	for _, c := range cases {
		checkProject(t, c.n, c.lines, c.i, grid(c.n, c.i))
	}
}

func TestProjectRandom(t *testing.T) {
	s := source(14)
	for range 1500 {
		n := 1 + s.upTo(2)
		list, i := s.system(n, s.upTo(8)), s.upTo(n-1)
		var points [][]api.Rat
		for range 12 {
			point := make([]api.Rat, n)
			for k := range point {
				point[k] = fromBigRat(s.fraction())
			}
			points = append(points, point)
		}
		// Points on the border are those at which others are highest and lowest.
		for range 3 {
			coefs := make([]api.Rat, n)
			for k := range coefs {
				coefs[k] = fromBigRat(s.small())
			}
			kind, sup, _ := linear.Max(n, list, coefs)
			if kind < 2 {
				continue
			}
			if point, ok := solved(t, n, with(list, api.Line{Coefs: coefs, Const: sup})); ok {
				points = append(points, point)
			}
		}
		checkProject(t, n, list, i, points)
	}
}

// TestProjectSmallSystem: lines that follow from the others are left out, so that a projection can be projected in turn.
func TestProjectSmallSystem(t *testing.T) {
	cases := []struct {
		n     int
		lines []api.Line
		i     int
		want  int
	}{
		{1, lines("1 <= 1", "-1 <= 0", "-1 <= 5"), 0, 0}, {1, lines("1 <= 1", "-1 <= -2", "-1 <= -3", "2 < 0"), 0, 1},
		{2, lines("1 1 <= 1", "-1 1 <= 1", "-1 1 <= 3", "0 1 <= 7", "1 -1 <= 1", "-1 -1 <= 1", "0 0 < 1"), 0, 2}, {2, lines("0 1 <= 1", "0 2 <= 2", "0 3 < 3"), 0, 1}, {2, lines("0 1 = 1", "0 2 <= 2", "0 3 < 4"), 0, 1},
		{3, with(box(3, "1"), lines("1 1 1 <= 5", "1 1 -1 <= 6", "-1 1 1 <= 7", "-1 -1 -1 <= 8")...), 2, 4},
	}
	for _, c := range cases {
		if got := projected(t, c.n, c.lines, c.i); len(got) != c.want {
			t.Errorf("Project of %s by %d is %s", briefLines(c.lines), c.i, briefLines(got))
		}
	}
}

// TestProjectTwoWords: there is no ErrLimit if the numbers have at most 2 words.
func TestProjectTwoWords(t *testing.T) {
	s := source(15)
	coef := func() *big.Rat { return s.long(64) }
	for round := range 60 {
		n := 1 + round%3
		var list []api.Line
		for range 6 + 2*(round/30) {
			list = append(list, s.line(n, coef, coef))
		}
		checkProject(t, n, list, s.upTo(n-1), nil)
	}
}

// TestProjectAsItIs: lines that have no coefficient of the variable stay valid, also if they have no short multiple with integers.
func TestProjectAsItIs(t *testing.T) {
	s := source(16)
	var list []api.Line
	for range 3 {
		list = append(list, lineOf(1, s.ratio(lineBits, lineBits), s.long(lineBits), s.long(lineBits), whole(0)))
	}
	list = append(list, lineOf(2, whole(1), whole(0), whole(0), whole(1)))
	checkProject(t, 3, list, 2, nil)
	// Here the coefficients of the variable are 1 and -1.
	short := lineBits/2 - 1
	list = []api.Line{lineOf(1, s.ratio(short, short), s.ratio(short, short), s.long(short), whole(1)), lineOf(1, s.ratio(short, short), s.long(short), s.ratio(short, short), whole(-1))}
	checkProject(t, 3, list, 2, nil)
}

// longEnd returns a system in which the least and the greatest number of variable 1, if there is one, has 80 words; a line has only 40 words to say which one it is.
func (s *source) longEnd(rel int) []api.Line {
	return []api.Line{lineOf(0, s.long(lineBits), whole(1), whole(0)), lineOf(rel, s.long(lineBits), s.long(lineBits), s.long(lineBits))}
}

// TestProjectErrLimit has projections that no valid system says.
func TestProjectErrLimit(t *testing.T) {
	s := source(17)
	for rel := range 3 {
		list := s.longEnd(rel)
		if got, e := linear.Project(2, list, 0); len(got) > 0 || e != api.ErrLimit {
			t.Errorf("Project of %s by 0 has %d lines and error %d", briefLines(list), len(got), e)
		}
		// What the system says of the other variable is short.
		checkProject(t, 2, list, 1, nil)
	}
}

// TestProjectLongLines: a line that is too long does not matter if it follows from others.
func TestProjectLongLines(t *testing.T) {
	s := source(19)
	positive := func() *big.Rat { return s.ratio(lineBits, lineBits) }
	list := []api.Line{lineOf(1, positive(), positive(), whole(0)), lineOf(1, positive(), neg(positive()), positive())}
	if _, e := linear.Project(2, list, 0); e != api.ErrLimit {
		t.Errorf("Project of %s by 0 has error %d", briefLines(list), e)
	}
	// The end of variable 1 is positive.
	checkProject(t, 2, with(list, line("0 1 <= 0")), 0, nil)
}

// TestProjectShortMultiples: a line whose numbers have a long factor in common is no long line.
func TestProjectShortMultiples(t *testing.T) {
	s := source(24)
	a, c := s.ratio(lineBits, lineBits), s.long(lineBits)
	list := []api.Line{lineOf(1, c, a, c), lineOf(2, c, neg(a), c)}
	checkProject(t, 2, list, 0, nil)
}

// TestProjectLongFirst: on the line x1 = 0, a long line and a short one say the same of the points.
func TestProjectLongFirst(t *testing.T) {
	s := source(25)
	list := lines("0 1 0 = 0", "0 0 1 <= 0")
	list = append(list, lineOf(1, whole(0), whole(1), s.ratio(lineBits, lineBits), whole(0)), lineOf(1, whole(0), neg(s.ratio(lineBits, lineBits)), whole(0), whole(1)))
	checkProject(t, 3, list, 0, nil)
}

// TestProjectOneWordTooMany has an end that is a prime number of 21 words, so that no multiple of the line is shorter, and one of 20 words.
func TestProjectOneWordTooMany(t *testing.T) {
	end := new(big.Int).Lsh(big.NewInt(1), lineBits)
	for !end.ProbablyPrime(20) {
		end.Add(end, big.NewInt(1))
	}
	half := power(lineBits - 1)
	rest := minus(new(big.Rat).SetInt(end), half)
	for rel := 1; rel <= 2; rel++ {
		list := []api.Line{lineOf(rel, half, whole(1), whole(0)), lineOf(1, rest, whole(-1), whole(1))}
		if got, e := linear.Project(2, list, 0); len(got) > 0 || e != api.ErrLimit {
			t.Errorf("Project of %s by 0 has %d lines and error %d", briefLines(list), len(got), e)
		}
		list[1].Const = fromBigRat(minus(half, whole(1)))
		checkProject(t, 2, list, 0, nil)
	}
}

func TestProjectErrRange(t *testing.T) {
	for n := range 4 {
		for _, i := range []int{-1, n, n + 1, math.MinInt, math.MaxInt} {
			for _, list := range [][]api.Line{nil, lines(zeros(n) + "< 0"), lines(zeros(n) + "<= 1")} {
				if got, e := linear.Project(n, list, i); len(got) > 0 || e != api.ErrRange {
					t.Errorf("Project by %d of %d has %d lines and error %d", i, n, len(got), e)
				}
			}
		}
	}
	// A wrong variable comes before numbers that are too long.
	s := source(18)
	if _, e := linear.Project(2, s.longEnd(0), 2); e != api.ErrRange {
		t.Errorf("Project by 2 of 2 has error %d", e)
	}
}
