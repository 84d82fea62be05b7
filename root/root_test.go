package root_test

import (
	"testing"

	"isochrone/api"
	"isochrone/root"
)

// longest returns numbers whose parts have exactly 200 words.
func longest() []api.Rat {
	return []api.Rat{fromBigRat(power(maxBits - 1)), fromBigRat(power(1 - maxBits)), fromBigRat(minus(power(maxBits), whole(1))), fromBigRat(over(minus(power(maxBits), whole(3)), minus(power(maxBits), whole(1)))), fromBigRat(neg(power(maxBits - 1)))}
}

// invalidNumbers returns numbers that may not stand in an argument.
func invalidNumbers() map[string]api.Rat {
	return map[string]api.Rat{
		"none": {}, "no denominator": {Num: []uint32{1}}, "a negative 0": {Neg: true, Den: []uint32{1}}, "not in lowest terms": {Num: []uint32{2}, Den: []uint32{4}}, "0 over 2": {Den: []uint32{2}},
		"a zero word in Num": {Num: []uint32{1, 0}, Den: []uint32{1}}, "a zero word in Den": {Num: []uint32{1}, Den: []uint32{3, 0}}, "a zero denominator": {Num: []uint32{1}, Den: []uint32{0}},
		"201 words in Num": fromBigRat(power(maxBits)), "201 words in Den": fromBigRat(power(-maxBits)), "a negative number of 201 words": fromBigRat(neg(plus(power(maxBits), whole(1)))), "4096 words": fromBigRat(power(32*4096 - 1)), "4097 words in Num": fromBigRat(power(32 * 4096)), "4097 words in Den": fromBigRat(power(-32 * 4096)),
		"201 words with a leading zero": {Num: make([]uint32, 201), Den: []uint32{1}},
	}
}

// invalidLists returns coefficient lists that are not valid.
func invalidLists() map[string][]api.Rat {
	lists := map[string][]api.Rat{
		"the list of 0": read("0"), "a last number 0": read("1 2 0"), "42 numbers": monomial(whole(1), 41).list(), "42 zeros": make([]api.Rat, 42), "many numbers": monomial(whole(1), 4000).list(),
		"41 numbers, the last one 0": append(monomial(whole(1), 39).list(), number("0")),
	}
	for name, x := range invalidNumbers() {
		lists["first number: "+name] = []api.Rat{x, number("1")}
		lists["last number: "+name] = []api.Rat{number("1"), x}
		lists["number between: "+name] = []api.Rat{number("1"), x, number("1")}
	}
	return lists
}

func TestValid(t *testing.T) {
	for _, text := range []string{"", "5", "-1/3", "0 1", "0 0 0 1", "1 0 -2/7"} {
		if !root.Valid(read(text)) {
			t.Errorf("%q is not valid", text)
		}
	}
	if !root.Valid(nil) || !root.Valid([]api.Rat{}) {
		t.Error("the empty list is not valid")
	}
	if !root.Valid(monomial(whole(1), api.MaxDegree).list()) {
		t.Error("a list of 41 numbers is not valid")
	}
	for _, x := range longest() {
		if !root.Valid([]api.Rat{x}) || !root.Valid([]api.Rat{x, number("0"), x}) {
			t.Errorf("a list with %s is not valid", brief(x))
		}
	}
	for name, c := range invalidLists() {
		if root.Valid(c) {
			t.Errorf("valid: %s", name)
		}
	}
	// A list is read up to its length alone.
	if c := read("1 2 0"); !root.Valid(c[:2]) {
		t.Error("a part of a list is not valid")
	}
}

// validRoots returns valid Roots.
func validRoots() []api.Root {
	list := []api.Root{
		rootOf("-2 0 1", "1", "2"), rootOf("-2 0 1", "0", "100"), rootOf("-2 0 1", "-1", "3"), rootOf("-2 0 1", "-7/5", "17/12"), rootOf("-2 0 1", "-2", "-1"),
		rootOf("-1/3 1", "1/3", "1/3"), rootOf("-1/3 1", "0", "1"), rootOf("0 1", "0", "0"), rootOf("0 1", "-1", "1"),
		// The lower end is a root, too.
		rootOf("0 -1 1", "0", "2"), rootOf("0 -1 1", "1", "1"), rootOf("0 -2 0 1", "0", "3/2"),
		// Beside real roots, there are complex ones.
		rootOf("-1 0 0 1", "0", "2"), rootOf("-1 1 -1 1", "-5", "5"), rootOf("1 -10 100 -1000 1", "1/2", "1000"),
		// More changes of sign than roots.
		{Poly: roots("1/2").times(parse("1/3 -1 1")).times(parse("1/4 1/10 1")).list(), Lo: number("0"), Hi: number("1")},
		{Poly: monomial(whole(1), 40).minus(parse("3")).list(), Lo: number("1"), Hi: number("2")},
	}
	for _, x := range longest() {
		list = append(list, api.Root{Poly: coefs{neg(toBigRat(x)), whole(1)}.list(), Lo: x, Hi: x})
	}
	tiny, great := power(1-maxBits), minus(power(maxBits), whole(1))
	return append(list,
		api.Root{Poly: read("0 1"), Lo: fromBigRat(neg(tiny)), Hi: fromBigRat(tiny)},
		api.Root{Poly: read("0 1"), Lo: fromBigRat(neg(great)), Hi: fromBigRat(great)},
		api.Root{Poly: read("-2 0 1"), Lo: fromBigRat(tiny), Hi: fromBigRat(great)},
		api.Root{Poly: coefs{neg(great), whole(0), whole(1)}.list(), Lo: number("0"), Hi: fromBigRat(great)})
}

// invalidRoots returns Roots that are not valid.
func invalidRoots() map[string]api.Root {
	made := map[string]api.Root{
		"none": {}, "no polynomial": rootOf("", "0", "0"), "a constant": rootOf("1", "0", "0"), "the constant with an interval": rootOf("1", "0", "1"),
		"not monic": rootOf("-2 2", "1", "1"), "not monic, with an interval": rootOf("-4 0 2", "1", "2"), "negative last number": rootOf("2 0 -1", "1", "2"),
		"a double root": rootOf("1 -2 1", "1", "1"), "a double root in an interval": rootOf("1 -2 1", "0", "2"), "a double root elsewhere": {Poly: roots("1", "1", "5").list(), Lo: number("4"), Hi: number("6")}, "a triple root": {Poly: roots("1", "1", "1").list(), Lo: number("0"), Hi: number("2")},
		"double complex roots": {Poly: parse("1 0 1").times(parse("1 0 1")).times(roots("3")).list(), Lo: number("3"), Hi: number("3")}, "double complex roots, with an interval": {Poly: parse("1 0 1").times(parse("1 0 1")).times(roots("3")).list(), Lo: number("2"), Hi: number("4")},
		"Lo greater than Hi": rootOf("-2 0 1", "2", "1"), "Lo greater than Hi around two roots": rootOf("-2 0 1", "2", "-2"), "Lo greater than Hi, a root": rootOf("-1 1", "2", "1"),
		"a point that is no root": rootOf("-2 0 1", "1", "1"), "no root": rootOf("-2 0 1", "2", "3"), "complex roots alone": rootOf("1 0 1", "-1", "1"), "complex roots near the interval": rootOf("1000001/1000000 -2 1", "0", "2"),
		"two roots": rootOf("-2 0 1", "-2", "2"), "three roots": {Poly: roots("1", "2", "3").list(), Lo: number("0"), Hi: number("4")}, "three roots, the last one at Hi": {Poly: roots("1", "2", "3").list(), Lo: number("0"), Hi: number("3")},
		"Hi a root": rootOf("-1 1", "0", "1"), "Hi a second root": rootOf("0 -1 1", "-1", "1"), "Lo alone a root": rootOf("-1 1", "1", "2"), "Lo and Hi roots": rootOf("0 -1 1", "0", "1"),
	}
	for name, x := range invalidNumbers() {
		made["Lo: "+name] = api.Root{Poly: read("-1 1"), Lo: x, Hi: number("2")}
		made["Hi: "+name] = api.Root{Poly: read("-1 1"), Lo: number("0"), Hi: x}
		made["Lo and Hi: "+name] = api.Root{Poly: read("-1 1"), Lo: x, Hi: x}
	}
	for name, c := range invalidLists() {
		made["Poly: "+name] = api.Root{Poly: c, Lo: number("-1"), Hi: number("2")}
	}
	return made
}

func TestValidRoot(t *testing.T) {
	for _, r := range validRoots() {
		if !root.ValidRoot(r) {
			t.Errorf("%s is not valid", briefRoot(r))
		}
	}
	for name, r := range invalidRoots() {
		if root.ValidRoot(r) {
			t.Errorf("valid: %s", name)
		}
	}
}

// TestValidRootAtRandom compares with the definition.
func TestValidRootAtRandom(t *testing.T) {
	s := source(21)
	for range 1500 {
		p := s.product(1+s.upTo(3), 2)
		if len(p) > 1 && s.upTo(3) > 0 {
			p = p.squareFree()
		}
		lo, hi := s.fraction(), s.fraction()
		if s.upTo(4) == 0 {
			lo = hi
		}
		if lo.Cmp(hi) > 0 && s.upTo(8) > 0 {
			lo, hi = hi, lo
		}
		want := len(p) > 1 && p.last().Cmp(whole(1)) == 0 && len(p.gcd(p.deriv())) == 1 && lo.Cmp(hi) <= 0
		if want && lo.Cmp(hi) == 0 {
			want = p.eval(hi).Sign() == 0
		} else if want {
			want = p.eval(hi).Sign() != 0 && p.count(lo, hi) == 1
		}
		r := api.Root{Poly: p.list(), Lo: fromBigRat(lo), Hi: fromBigRat(hi)}
		if got := root.ValidRoot(r); got != want {
			t.Errorf("ValidRoot of %s is %t", briefRoot(r), got)
		}
	}
}
