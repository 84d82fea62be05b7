package linear_test

import (
	"math"
	"math/big"
	"slices"
	"testing"

	"isochrone/api"
	"isochrone/linear"
)

// longest returns numbers whose parts have up to exactly so many binary digits.
func longest(digits int) []api.Rat {
	great := minus(power(digits), whole(1))
	return []api.Rat{fromBigRat(power(digits - 1)), fromBigRat(power(1 - digits)), fromBigRat(great), fromBigRat(over(minus(great, whole(2)), great)), fromBigRat(neg(power(digits - 1)))}
}

// invalidNumbers returns numbers that may not stand where parts have at most so many binary digits.
func invalidNumbers(digits int) map[string]api.Rat {
	return map[string]api.Rat{
		"none": {}, "no denominator": {Num: []uint32{1}}, "a negative 0": {Neg: true, Den: []uint32{1}}, "not in lowest terms": {Num: []uint32{2}, Den: []uint32{4}}, "0 over 2": {Den: []uint32{2}},
		"a zero word in Num": {Num: []uint32{1, 0}, Den: []uint32{1}}, "a zero word in Den": {Num: []uint32{1}, Den: []uint32{3, 0}}, "a zero denominator": {Num: []uint32{1}, Den: []uint32{0}},
		"a word too many in Num": fromBigRat(power(digits)), "a word too many in Den": fromBigRat(power(-digits)), "a negative number with a word too many": fromBigRat(minus(power(-digits), power(digits))),
		"4096 words": fromBigRat(power(32*4096 - 1)), "4097 words in Num": fromBigRat(power(32 * 4096)), "4097 words in Den": fromBigRat(power(-32 * 4096)),
		"a word too many, a leading zero": {Num: make([]uint32, digits/32+1), Den: []uint32{1}},
	}
}

// system is a number of variables with lines.
type system struct {
	n     int
	lines []api.Line
}

func validSystems() map[string]system {
	one := line("1 0 -1 <= 1/2")
	made := map[string]system{
		"no variables and no lines": {0, nil}, "no lines": {3, nil}, "an empty list of lines": {3, []api.Line{}}, "8 variables and no lines": {8, nil},
		"one line": {3, []api.Line{one}}, "40 lines": {3, slices.Repeat([]api.Line{one}, api.MaxLines)}, "all relations": {1, lines("1 = 1", "1 <= 1", "1 < 1")},
		"no coefficients": {0, lines("= 0", "<= 1", "< -1")}, "coefficients of zero": {2, lines("0 0 <= 0")},
		"8 variables": {8, lines("1 2 3 4 5 6 7 8 = 9", zeros(8)+"< 0")}, "40 lines in 8 variables": {8, slices.Repeat(lines(zeros(8)+"<= 1"), api.MaxLines)},
		"two copies of a line": {1, lines("1 <= 1", "1 <= 1")}, "a nil list of coefficients": {0, []api.Line{{Const: number("1")}}},
		"nil words": {1, []api.Line{{Coefs: []api.Rat{{Den: []uint32{1}}}, Rel: 1, Const: api.Rat{Num: []uint32{}, Den: []uint32{1}}}}},
	}
	for k, x := range longest(lineBits) {
		name := "20 words, number " + string(rune('0'+k))
		made[name] = system{2, []api.Line{{Coefs: []api.Rat{x, x}, Rel: k % 3, Const: x}}}
	}
	return made
}

func invalidSystems() map[string]system {
	one := line("1 0 <= 1")
	made := map[string]system{
		"-1 variables": {-1, nil}, "9 variables": {9, nil}, "9 variables with lines": {9, lines(zeros(9) + "<= 1")}, "the least number of variables": {math.MinInt, nil}, "the greatest number of variables": {math.MaxInt, nil},
		"41 lines": {2, slices.Repeat([]api.Line{one}, api.MaxLines+1)}, "many lines": {2, slices.Repeat([]api.Line{one}, 5000)}, "41 lines without variables": {0, slices.Repeat(lines("<= 1"), api.MaxLines+1)},
		"a coefficient too few": {3, []api.Line{one}}, "a coefficient too many": {1, []api.Line{one}}, "a coefficient without variables": {0, lines("1 <= 1")}, "no coefficients": {2, lines("<= 1")}, "the last line too short": {2, lines("1 1 <= 1", "1 <= 1")},
		"lines for another number of variables": {8, []api.Line{one}}, "the empty line": {0, []api.Line{{}}}, "an empty line": {2, []api.Line{one, {}}},
	}
	for _, rel := range []int{-1, 3, math.MinInt, math.MaxInt} {
		l := line("1 0 <= 1")
		l.Rel = rel
		made["Rel "+brief(fromBigRat(whole(rel)))] = system{2, []api.Line{one, l}}
	}
	for name, x := range invalidNumbers(lineBits) {
		made["first coefficient: "+name] = system{2, []api.Line{{Coefs: []api.Rat{x, number("1")}, Rel: 1, Const: number("1")}}}
		made["last coefficient: "+name] = system{2, []api.Line{one, {Coefs: []api.Rat{number("1"), x}, Rel: 2, Const: number("1")}}}
		made["constant: "+name] = system{2, []api.Line{one, {Coefs: read("1 1"), Const: x}, one}}
		made["constant without variables: "+name] = system{0, []api.Line{{Const: x}}}
	}
	return made
}

func TestCheck(t *testing.T) {
	for name, s := range validSystems() {
		if e := linear.Check(s.n, s.lines); e != api.OK {
			t.Errorf("Check of %s is %d", name, e)
		}
	}
	for name, s := range invalidSystems() {
		if e := linear.Check(s.n, s.lines); e != api.ErrForm {
			t.Errorf("Check of %s is %d", name, e)
		}
	}
	// A list is read up to its length alone.
	list := lines("1 1 <= 1", "1 <= 1")
	list[0].Coefs = append(list[0].Coefs, api.Rat{})[:2]
	if e := linear.Check(2, list[:1]); e != api.OK {
		t.Errorf("Check of parts of lists is %d", e)
	}
}

// TestErrForm: a system that is not valid is the first error, whatever else is wrong.
func TestErrForm(t *testing.T) {
	for name, s := range invalidSystems() {
		for _, numbers := range [][]api.Rat{nil, read("1 1"), {{}, {}}, make([]api.Rat, 50)} {
			for _, i := range []int{-1, 0, 5} {
				failsSolved(t, name, s.n, s.lines, numbers, i, api.ErrForm)
			}
			got, e := linear.Holds(s.n, s.lines, numbers)
			sameBool(t, "Holds of "+name, got, e, false, api.ErrForm)
			got, e = linear.Refutes(s.n, s.lines, numbers)
			sameBool(t, "Refutes of "+name, got, e, false, api.ErrForm)
		}
	}
}

// TestErrBudget: a system beyond the budget is the second error.
func TestErrBudget(t *testing.T) {
	beyond := map[string]system{
		"4 variables": {4, nil}, "4 variables and a line": {4, lines("1 0 0 0 <= 1")}, "8 variables": {8, lines(zeros(8) + "< 0")}, "11 lines": {3, slices.Repeat(lines("1 0 0 <= 1"), 11)},
		"11 lines in 1 variable": {1, slices.Repeat(lines("1 <= 1"), 11)}, "11 lines without variables": {0, slices.Repeat(lines("< 0"), 11)}, "40 lines in 8 variables": {8, slices.Repeat(lines(zeros(8)+"= 0"), 40)},
	}
	for name, s := range beyond {
		for _, numbers := range [][]api.Rat{nil, read(zeros(s.n)), {{}}, read(zeros(s.n + 1))} {
			for _, i := range []int{-1, 0, s.n} {
				failsSolved(t, name, s.n, s.lines, numbers, i, api.ErrBudget)
			}
		}
		// The other functions have no budget.
		if e := linear.Check(s.n, s.lines); e != api.OK {
			t.Errorf("Check of %s is %d", name, e)
		}
		_, e := linear.Holds(s.n, s.lines, read(zeros(s.n)))
		_, f := linear.Refutes(s.n, s.lines, read(zeros(len(s.lines))))
		if e != api.OK || f != api.OK {
			t.Errorf("Holds and Refutes of %s have errors %d and %d", name, e, f)
		}
	}
	within := []system{{3, slices.Repeat(lines("1 0 0 <= 1"), 10)}, {3, nil}, {0, nil}, {0, slices.Repeat(lines("<= 1"), 10)}}
	for _, s := range within {
		if !has(t, s.n, s.lines) {
			t.Errorf("%s has no point", briefLines(s.lines))
		}
	}
}

func TestHolds(t *testing.T) {
	cases := []struct {
		lines []api.Line
		point string
		want  bool
	}{
		{nil, "1 2", true},
		{lines("1 1 = 3"), "1 2", true}, {lines("1 1 = 3"), "1 1", false}, {lines("1 1 = 3"), "2 2", false},
		{lines("1 1 <= 3"), "1 2", true}, {lines("1 1 <= 3"), "1 1", true}, {lines("1 1 <= 3"), "1 5/2", false},
		{lines("1 1 < 3"), "1 2", false}, {lines("1 1 < 3"), "1 19/10", true}, {lines("1 1 < 3"), "4 -1/2", false},
		{lines("1/2 -1/3 = 1/6"), "1 1", true}, {lines("1/2 -1/3 = 1/6"), "0 -1/2", true}, {lines("1/2 -1/3 < 1/6"), "1 1", false}, {lines("1/2 -1/3 <= 1/6"), "1 100000/100001", false},
		{lines("0 0 <= 0"), "7 8", true}, {lines("0 0 < 0"), "7 8", false}, {lines("0 0 = 0"), "7 8", true}, {lines("0 0 = 1"), "7 8", false}, {lines("0 0 < 1"), "7 8", true},
		{lines("1 0 <= 1", "0 1 <= 1", "1 1 < 1"), "1 -1", true}, {lines("1 0 <= 1", "0 1 <= 1", "1 1 < 1"), "1 0", false}, {lines("1 0 <= 1", "0 1 <= 1", "1 1 < 1"), "2 -5", false}, {lines("1 0 <= 1", "0 1 <= 1", "1 1 < 1"), "-5 2", false},
		{lines("-1 0 <= 0", "0 -1 < 0"), "0 1", true}, {lines("-1 0 <= 0", "0 -1 < 0"), "0 0", false}, {lines("-1 0 <= 0", "0 -1 < 0"), "-1/1000 1", false},
	}
	for _, c := range cases {
		got, e := linear.Holds(2, c.lines, read(c.point))
		sameBool(t, "Holds of "+briefLines(c.lines)+" and "+c.point, got, e, c.want, api.OK)
	}
	got, e := linear.Holds(0, nil, nil)
	sameBool(t, "Holds of nothing", got, e, true, api.OK)
	got, e = linear.Holds(0, lines("<= 0", "= 0", "< 1"), []api.Rat{})
	sameBool(t, "Holds without variables", got, e, true, api.OK)
	got, e = linear.Holds(0, lines("<= 0", "< 0"), nil)
	sameBool(t, "Holds of 0 < 0", got, e, false, api.OK)
}

// TestHoldsRandom compares with sums of math/big, near the borders of the lines.
func TestHoldsRandom(t *testing.T) {
	s := source(2)
	for range 3000 {
		n := s.upTo(api.MaxVars)
		point := make([]api.Rat, n)
		for i := range point {
			point[i] = fromBigRat(s.fraction())
		}
		var list []api.Line
		for range 1 + s.upTo(2) {
			l := s.line(n, s.fraction, s.fraction)
			l.Const = fromBigRat(plus(sum(l.Coefs, point), big.NewRat(int64(s.upTo(2)-1), 1000)))
			list = append(list, l)
		}
		got, e := linear.Holds(n, list, point)
		sameBool(t, "Holds of "+briefLines(list)+" and "+briefList(point), got, e, isOnAll(list, point), api.OK)
	}
}

// TestHoldsOfLongNumbers has 40 lines in 8 variables with numbers of 20 words, and points of 200 words.
func TestHoldsOfLongNumbers(t *testing.T) {
	s := source(3)
	coef := func() *big.Rat { return s.long(lineBits) }
	var list []api.Line
	for range api.MaxLines {
		list = append(list, s.line(8, coef, coef))
	}
	var point []api.Rat
	for range 8 {
		point = append(point, fromBigRat(s.long(maxBits)))
	}
	for k, l := range list {
		got, e := linear.Holds(8, list[k:k+1], point)
		sameBool(t, "Holds of a long line", got, e, isOn(l, point), api.OK)
	}
	got, e := linear.Holds(8, list, point)
	sameBool(t, "Holds of long lines", got, e, isOnAll(list, point), api.OK)
}

// TestHoldsNearTheBorder has points that are on the border of a line, and as near to it as their words allow.
func TestHoldsNearTheBorder(t *testing.T) {
	step := power(10 - maxBits)
	for rel, want := range [][3]bool{{false, true, false}, {true, true, false}, {true, false, false}} {
		for k, move := range []*big.Rat{neg(step), whole(0), step} {
			x := fromBigRat(plus(big.NewRat(1, 3), move))
			got, e := linear.Holds(1, []api.Line{lineOf(rel, whole(2), whole(6))}, []api.Rat{x})
			sameBool(t, "Holds near the border", got, e, want[k], api.OK)
		}
	}
}

// TestErrRangeOfPoints has points that are no points of the system.
func TestErrRangeOfPoints(t *testing.T) {
	fails := func(what string, n int, list []api.Line, point []api.Rat) {
		t.Helper()
		got, e := linear.Holds(n, list, point)
		sameBool(t, "Holds of "+what, got, e, false, api.ErrRange)
	}
	list := lines("1 1 <= 3")
	for _, text := range []string{"", "1", "1 2 3"} {
		fails("a point "+text, 2, list, read(text))
		fails("no lines and a point "+text, 2, nil, read(text))
	}
	fails("a coordinate without variables", 0, nil, read("0"))
	fails("a coordinate without variables and a line that does not hold", 0, lines("< 0"), read("0"))
	fails("many coordinates", 2, list, read(zeros(3000)))
	for name, x := range invalidNumbers(maxBits) {
		fails("a first coordinate: "+name, 2, list, []api.Rat{x, number("1")})
		fails("a last coordinate: "+name, 2, nil, []api.Rat{number("1"), x})
		fails("a coordinate: "+name, 1, lines("0 < 0"), []api.Rat{x})
		fails("a coordinate too many: "+name, 1, nil, []api.Rat{x, x})
	}
	for _, x := range longest(maxBits) {
		got, e := linear.Holds(2, lines("1 -1 = 0"), []api.Rat{x, x})
		sameBool(t, "Holds of a point with "+brief(x), got, e, true, api.OK)
	}
}
