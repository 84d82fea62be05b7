package linear_test

import (
	"math/big"
	"slices"
	"testing"

	"isochrone/api"
	"isochrone/linear"
)

func TestMax(t *testing.T) {
	triangle := lines("1 1 <= 1", "-1 0 <= 0", "0 -1 <= 0")
	open := lines("1 1 < 1", "-1 0 <= 0", "0 -1 < 0")
	cases := []struct {
		n     int
		lines []api.Line
		coefs string
		kind  int
		sup   string
	}{
		{2, triangle, "1 1", 2, "1"}, {2, triangle, "1 2", 2, "2"}, {2, triangle, "-1 -1", 2, "0"}, {2, triangle, "1/3 -5", 2, "1/3"}, {2, triangle, "0 0", 2, "0"}, {2, triangle, "-2 -3", 2, "0"},
		{2, open, "1 1", 3, "1"}, {2, open, "1 2", 3, "2"}, {2, open, "-1 0", 2, "0"}, {2, open, "0 -1", 3, "0"}, {2, open, "-1 -1", 3, "0"}, {2, open, "0 0", 2, "0"},
		{2, lines("1 0 < 1"), "1 0", 3, "1"}, {2, lines("1 0 < 1"), "0 1", 1, "0"}, {2, lines("1 0 < 1"), "-1 0", 1, "0"}, {2, lines("1 0 < 1"), "1 1/100", 1, "0"}, {2, lines("1 0 <= 1"), "3 0", 2, "3"}, {2, lines("2 0 <= 1"), "-3 0", 1, "0"}, {2, lines("1 1 <= 1"), "2 2", 2, "2"}, {2, lines("1 1 < 1"), "2 2", 3, "2"},
		// No point.
		{2, with(triangle, line("-1 -1 < -1")), "1 1", 0, "0"}, {2, with(triangle, line("-1 -1 < -1")), "0 0", 0, "0"}, {2, lines("0 0 < 0"), "1 0", 0, "0"}, {2, lines("0 0 = 1"), "0 0", 0, "0"}, {2, lines("1 0 = 1", "1 0 = 2"), "0 1", 0, "0"},
		// One point.
		{2, lines("1 1 = 3", "1 -1 = 1"), "5 7", 2, "17"}, {2, lines("1 1 <= 3", "-1 0 <= -2", "0 -1 <= -1"), "5 7", 2, "17"}, {2, lines("1 1 = 3"), "1 1", 2, "3"}, {2, lines("1 1 = 3"), "-1/2 -1/2", 2, "-3/2"}, {2, lines("1 1 = 3"), "1 2", 1, "0"}, {2, lines("1 1 = 3"), "0 0", 2, "0"},
		// The supremum of an edge is reached although one of its ends is missing.
		{2, lines("1 1 <= 1", "-1 0 < 0", "0 -1 <= 0"), "1 1", 2, "1"}, {2, lines("1 1 <= 1", "-1 0 < 0", "0 -1 <= 0"), "0 1", 3, "1"}, {2, lines("1 1 <= 1", "-1 0 < 0", "0 -1 <= 0"), "1 0", 2, "1"},
		// A strict line beside one that bounds in the same way.
		{1, lines("1 <= 1", "1 < 1"), "1", 3, "1"}, {1, lines("1 <= 1", "1 < 2"), "1", 2, "1"}, {1, lines("1 < 1", "1 <= 2"), "2", 3, "2"}, {1, lines("1 = 1", "1 < 2"), "4", 2, "4"}, {1, nil, "1", 1, "0"}, {1, nil, "0", 2, "0"}, {1, lines("1 < -5"), "1", 3, "-5"},
		{0, nil, "", 2, "0"}, {0, lines("<= 0"), "", 2, "0"}, {0, lines("< 0"), "", 0, "0"}, {0, lines("= 1"), "", 0, "0"}, {3, nil, "0 0 0", 2, "0"}, {3, nil, "0 0 1", 1, "0"},
		{3, box(3, "1"), "1 -2 3", 2, "6"}, {3, with(box(3, "1"), line("1 1 1 < 5/2")), "1 1 1", 3, "5/2"}, {3, with(box(3, "1"), line("1 1 1 < 5/2")), "1 1 0", 2, "2"}, {3, with(box(3, "1"), line("1 1 1 < 3")), "1 2 3", 3, "6"}, {3, with(box(3, "1"), line("0 0 1 = 1/2"), line("1 1 0 < 1")), "1 1 2", 3, "2"},
	}
	for _, c := range cases {
		kind, sup, e := linear.Max(c.n, c.lines, read(c.coefs))
		if kind != c.kind || !equalNumbers(sup, number(c.sup)) || e != api.OK {
			t.Errorf("Max of %s and %s is %d, %s, %d, not %d, %s", briefLines(c.lines), c.coefs, kind, brief(sup), e, c.kind, c.sup)
		}
	}
}

// checkMax checks what Max says by systems with another line, which Solve decides with proof.
func checkMax(t *testing.T, n int, list []api.Line, coefs []api.Rat) int {
	t.Helper()
	kind, sup, e := linear.Max(n, list, coefs)
	what := briefLines(list) + " and " + briefList(coefs)
	if e != api.OK {
		t.Fatalf("Max of %s has error %d", what, e)
	}
	if kind < 2 && !equalNumbers(sup, number("0")) {
		t.Errorf("Max of %s is %d, %s", what, kind, brief(sup))
	}
	// hasValue reports whether a value is equal to, at most or less than x, by rel, or rather equal to, at least or greater than it.
	hasValue := func(rel int, x *big.Rat) bool {
		l := api.Line{Coefs: coefs, Rel: rel, Const: fromBigRat(x)}
		return has(t, n, with(list, opposite(l)))
	}
	s := toBigRat(sup)
	right := false
	switch kind {
	case 0:
		right = !has(t, n, list)
	case 1:
		right = hasValue(1, whole(0)) && hasValue(1, whole(1000000)) && hasValue(1, power(300))
	case 2:
		right = hasValue(0, s) && !hasValue(2, s)
	case 3:
		right = !hasValue(1, s) && hasValue(1, minus(s, power(-20))) && hasValue(1, minus(s, power(-300)))
	}
	if !right {
		t.Errorf("Max of %s is %d, %s", what, kind, brief(sup))
	}
	return kind
}

func TestMaxRandom(t *testing.T) {
	s := source(11)
	count := [4]int{}
	for range 3000 {
		n := s.upTo(3)
		list := s.system(n, s.upTo(9))
		var coefs []api.Rat
		for range n {
			coefs = append(coefs, fromBigRat([...]func() *big.Rat{s.small, s.fraction}[s.upTo(1)]()))
		}
		if len(list) > 0 && s.upTo(2) == 0 {
			// A face as a whole has this value.
			coefs = cloneList(list[s.upTo(len(list)-1)].Coefs)
		}
		count[checkMax(t, n, list, coefs)]++
	}
	for kind, c := range count {
		if c < 100 {
			t.Errorf("only %d systems of kind %d", c, kind)
		}
	}
}

// TestMaxOfLongEquations has coefs of 200 words and numbers of 20 words in lines: the supremum has more words, and no limit but that of a valid number.
func TestMaxOfLongEquations(t *testing.T) {
	s := source(12)
	for n := 1; n <= 3; n++ {
		list := s.longSystem(n, n)
		var coefs []api.Rat
		for k := range list {
			list[k].Rel = 0
			coefs = append(coefs, fromBigRat(s.long(maxBits)))
		}
		// The only point is the one at which all lines meet.
		point, _, _ := linear.Solve(n, list)
		want := fromBigRat(sum(coefs, point))
		kind, sup, e := linear.Max(n, list, coefs)
		if kind != 2 || !equalNumbers(sup, want) || e != api.OK {
			t.Errorf("Max of %d long equations is %d, %s, %d", n, kind, brief(sup), e)
		}
		if len(sup.Num) <= 200 {
			t.Errorf("the supremum has only %d words", len(sup.Num))
		}
	}
}

// TestMaxOfLongLines has coefs that are sums of the lines, each one taken many times: the supremum is the same sum of their constants.
func TestMaxOfLongLines(t *testing.T) {
	s := source(13)
	for n := 1; n <= 3; n++ {
		list := s.longSystem(n, n)
		coefs := make([]*big.Rat, n)
		for i := range coefs {
			coefs[i] = new(big.Rat)
		}
		want := new(big.Rat)
		for k, l := range list {
			multiple := new(big.Rat).SetInt(s.odd(maxBits - n*lineBits - 8))
			want.Add(want, times(multiple, toBigRat(l.Const)))
			for i, c := range l.Coefs {
				coefs[i].Add(coefs[i], times(multiple, toBigRat(c)))
			}
			list[k].Rel = 1
		}
		for last := range 2 {
			// A strict line makes the supremum one that is not reached.
			list[n-1].Rel = 1 + last
			kind, sup, e := linear.Max(n, list, lineOf(0, want, coefs...).Coefs)
			if kind != 2+last || !equalNumbers(sup, fromBigRat(want)) || e != api.OK {
				t.Errorf("Max of %d long lines is %d, %s, %d", n, kind, brief(sup), e)
			}
		}
	}
}

// TestErrRangeOfCoefs has coefs that are not one number for each variable.
func TestErrRangeOfCoefs(t *testing.T) {
	fails := func(what string, n int, list []api.Line, coefs []api.Rat) {
		t.Helper()
		kind, sup, e := linear.Max(n, list, coefs)
		if kind != 0 || !equalNumbers(sup, api.Rat{}) || e != api.ErrRange {
			t.Errorf("Max with %s is %d, %s, %d", what, kind, brief(sup), e)
		}
	}
	list := lines("1 1 <= 3")
	for _, text := range []string{"", "1", "1 2 3"} {
		fails("coefs "+text, 2, list, read(text))
		fails("no lines and coefs "+text, 2, nil, read(text))
		fails("no points and coefs "+text, 2, lines("0 0 < 0"), read(text))
	}
	fails("a number without variables", 0, nil, read("0"))
	fails("many numbers", 3, slices.Repeat(lines("0 0 1 <= 1"), 10), read(zeros(3000)))
	for name, x := range invalidNumbers(maxBits) {
		fails("a first number: "+name, 2, list, []api.Rat{x, number("1")})
		fails("a last number: "+name, 2, nil, []api.Rat{number("1"), x})
	}
	for _, x := range longest(maxBits) {
		kind, sup, e := linear.Max(2, lines("1 1 <= 1", "-1 -1 <= 1"), []api.Rat{x, x})
		size := toBigRat(x)
		if kind != 2 || !equalNumbers(sup, fromBigRat(size.Abs(size))) || e != api.OK {
			t.Errorf("Max with coefs of %s is %d, %s, %d", brief(x), kind, brief(sup), e)
		}
	}
}
