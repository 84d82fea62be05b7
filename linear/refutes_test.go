package linear_test

import (
	"math/big"
	"testing"

	"isochrone/api"
	"isochrone/linear"
)

func TestRefutes(t *testing.T) {
	apart := lines("1 1 <= 1", "-1 -1 <= -2")
	touching := lines("1 1 <= 1", "-1 -1 <= -1")
	open := lines("1 1 < 1", "-1 -1 <= -1")
	equations := lines("1 0 = 1", "1 1 = 3", "0 1 = 1")
	cases := []struct {
		lines      []api.Line
		refutation string
		want       bool
	}{
		{nil, "", false},
		{apart, "1 1", true}, {apart, "1/7 1/7", true}, {apart, "1 2", false}, {apart, "0 0", false}, {apart, "0 1", false}, {apart, "-1 -1", false},
		// The sum is zero: it refutes only with a strict line.
		{touching, "1 1", false}, {touching, "0 0", false}, {open, "1 1", true}, {open, "2 2", true}, {open, "0 0", false}, {open, "-1 -1", false},
		{lines("1 1 <= 1", "-1 -1 <= -1", "1 0 < 5"), "1 1 0", false}, {lines("1 1 <= 1", "-1 -1 < -1", "1 0 < 5"), "1 1 0", true}, {lines("1 1 <= 1", "-1 -1 <= -1", "0 0 < 0"), "1 1 1/9", true}, {lines("1 1 <= 1", "-1 -1 <= -1", "0 0 < 1"), "1 1 1", false},
		// A positive sum refutes nothing.
		{lines("1 1 < 2", "-1 -1 < -1"), "1 1", false},
		// Multipliers of equations may be negative.
		{equations, "1 -1 1", true}, {equations, "-1 1 -1", false}, {equations, "2 -2 2", true}, {equations, "1 -1 0", false}, {lines("0 0 = 1"), "-1", true}, {lines("0 0 = 1"), "1", false}, {lines("0 0 = -1/9"), "1/3", true}, {lines("0 0 = 0"), "1", false},
		{lines("1 1 = 1", "1 1 <= 0"), "-1 1", true}, {lines("1 1 = 1", "1 1 < 1"), "-1 1", true}, {lines("1 1 = 1", "1 1 <= 1"), "-1 1", false}, {lines("1 1 <= 0", "1 1 = 1"), "-1 1", false}, {lines("1 1 < 0", "1 1 = 1"), "-1 1", false},
		// A sum without coefficients is needed in every coordinate.
		{lines("1 1 <= 1", "-1 0 <= -1", "0 -1 <= -1"), "1 1 1", true}, {lines("1 1 <= 1", "-1 0 <= -1", "0 -1 <= -1"), "1 1 0", false}, {lines("1 1 <= 1", "-1 0 <= -1", "0 -1 <= -1"), "1 0 1", false}, {lines("1 1 <= 1", "-1 0 <= -1", "0 -1 <= -1"), "2 2 2", true},
		{lines("1/2 0 < 1", "-1/3 0 <= -2/3"), "2 3", true}, {lines("1/2 0 <= 1", "-1/3 0 <= -2/3"), "2 3", false}, {lines("0 0 <= -1/1000"), "1/1000", true}, {lines("0 0 <= 0"), "1", false}, {lines("0 0 < 0"), "1", true}, {lines("0 0 < 0"), "0", false},
	}
	for _, c := range cases {
		got, e := linear.Refutes(2, c.lines, read(c.refutation))
		sameBool(t, "Refutes of "+briefLines(c.lines)+" and "+c.refutation, got, e, c.want, api.OK)
	}
	got, e := linear.Refutes(0, lines("<= 0", "<= -1"), read("5 1"))
	sameBool(t, "Refutes without variables", got, e, true, api.OK)
	got, e = linear.Refutes(0, lines("<= 0", "<= -1"), read("5 0"))
	sameBool(t, "Refutes without variables, of 0", got, e, false, api.OK)
	got, e = linear.Refutes(0, nil, []api.Rat{})
	sameBool(t, "Refutes of nothing", got, e, false, api.OK)
}

// TestRefutesRandom compares with sums of math/big, mostly on lists of which only the last sum decides.
func TestRefutesRandom(t *testing.T) {
	s := source(4)
	found := 0
	for range 4000 {
		n, count := s.upTo(api.MaxVars), 2+s.upTo(6)
		var list []api.Line
		var refutation []api.Rat
		for range count {
			list = append(list, s.line(n, s.small, s.fraction))
			refutation = append(refutation, number("1"))
			if s.upTo(3) == 0 {
				refutation[len(refutation)-1] = fromBigRat(s.fraction())
			}
		}
		// The last line makes up for the sum of the others.
		last := &list[count-1]
		for i := range n {
			sums := new(big.Rat)
			for k := range count - 1 {
				sums.Sub(sums, times(toBigRat(list[k].Coefs[i]), toBigRat(refutation[k])))
			}
			last.Coefs[i] = fromBigRat(sums)
		}
		refutation[count-1] = number("1")
		if s.upTo(2) == 0 {
			rest := new(big.Rat)
			for k := range count - 1 {
				rest.Sub(rest, times(toBigRat(list[k].Const), toBigRat(refutation[k])))
			}
			last.Const = fromBigRat(rest)
		}
		if s.upTo(5) == 0 && n > 0 {
			last.Coefs[s.upTo(n-1)] = fromBigRat(s.fraction())
		}
		want := refutes(n, list, refutation)
		if want {
			found++
		}
		got, e := linear.Refutes(n, list, refutation)
		sameBool(t, "Refutes of "+briefLines(list)+" and "+briefList(refutation), got, e, want, api.OK)
	}
	if found < 500 {
		t.Errorf("only %d refutations", found)
	}
}

// TestRefutesOfLongNumbers has 40 lines in 8 variables with numbers of 20 words, and multipliers of 200 words: the lines are the opposites of each other by twos.
func TestRefutesOfLongNumbers(t *testing.T) {
	s := source(5)
	coef := func() *big.Rat { return s.long(lineBits) }
	// There is room for a change in the last digits.
	constant := func() *big.Rat { return s.long(lineBits - 8) }
	var list []api.Line
	var refutation []api.Rat
	for range api.MaxLines / 2 {
		l := s.line(8, coef, constant)
		l.Rel = 1
		multiplier := s.long(maxBits)
		x := fromBigRat(multiplier.Abs(multiplier))
		list = append(list, l, opposite(l))
		refutation = append(refutation, x, x)
	}
	check := func(what string, want bool) {
		t.Helper()
		got, e := linear.Refutes(8, list, refutation)
		sameBool(t, "Refutes of "+what, got, e, want, api.OK)
	}
	check("a sum of zero", false)
	list[17].Rel = 2
	check("a sum of zero with a strict line", true)
	list[17].Rel = 1
	c := toBigRat(list[30].Const)
	last := new(big.Rat).SetFrac(big.NewInt(2), c.Denom())
	list[30].Const = fromBigRat(plus(c, last))
	check("a sum that is just positive", false)
	list[30].Const = fromBigRat(minus(c, last))
	check("a sum that is just negative", true)
	list[30].Coefs[7] = number("3/5")
	check("a sum with a coefficient", false)
}

// TestErrRangeOfRefutations has lists that do not have a multiplier for each line.
func TestErrRangeOfRefutations(t *testing.T) {
	fails := func(what string, n int, list []api.Line, refutation []api.Rat) {
		t.Helper()
		got, e := linear.Refutes(n, list, refutation)
		sameBool(t, "Refutes of "+what, got, e, false, api.ErrRange)
	}
	list := lines("1 1 <= 1", "-1 -1 <= -2")
	for _, text := range []string{"", "1", "1 1 0", "1 1 1 1"} {
		fails("a list "+text, 2, list, read(text))
	}
	fails("a number without lines", 2, nil, read("1"))
	fails("many numbers", 2, list, read(zeros(3000)))
	for name, x := range invalidNumbers(maxBits) {
		fails("a first number: "+name, 2, list, []api.Rat{x, number("1")})
		fails("a last number: "+name, 2, list, []api.Rat{number("-1"), x})
		fails("a number: "+name, 0, lines("= 1"), []api.Rat{x})
	}
	for k, x := range longest(maxBits) {
		got, e := linear.Refutes(2, list, []api.Rat{x, x})
		sameBool(t, "Refutes of two times "+brief(x), got, e, k < 4, api.OK)
	}
}
