package text_test

import (
	"strings"
	"testing"

	"isochrone/api"
	"isochrone/text"
)

// TestParseErrors: the order of the errors that have no offset.
func TestParseErrors(t *testing.T) {
	long := "x" + strings.Repeat(" ", api.MaxText)
	for _, sort := range []int{0, 4, -1, 5, 1 << 40, -1 << 63} {
		checkErrors(t, sort, api.ErrRange, "", "x", "$", "true", long)
	}
	for sort := term; sort <= program; sort++ {
		checkErrors(t, sort, api.ErrLimit, long, "$"+long, strings.Repeat("(", api.MaxText+1), strings.Repeat("x", 1<<20))
	}
	checkParse(t, long[:api.MaxText], term, v("x"))
	checkParse(t, strings.Repeat("\n", api.MaxText-4)+"true", formula, of(api.FTrue))
	checkError(t, strings.Repeat(" ", api.MaxText-1)+"$", program, api.MaxText-1, api.ErrSyntax)
	checkError(t, strings.Repeat(" ", api.MaxText), program, api.MaxText, api.ErrSyntax)
	// a syntax error comes ahead of what tree.Check says, and a tree that is too large ahead of one that is not well formed
	checkMarked(t, term, "x / y ~$", "x ^ 21~)", "true + ~", strings.Repeat("x+", 5000)+mark+"$")
	checkMarked(t, formula, "x = true ~true")
	checkErrors(t, term, api.ErrLimit, strings.Repeat("x+", 5000)+"x", strings.Repeat("x/y+", 100)+"x", strings.Repeat("x+", api.MaxText/2-1)+"x")
	checkErrors(t, formula, api.ErrLimit, strings.Repeat("!", 60)+"true", strings.Repeat("p()->", 60)+"p()", strings.Repeat("x=1&", 60)+"true")
	checkErrors(t, program, api.ErrLimit, strings.Repeat("a;", 60)+"a", "?"+strings.Repeat("[a]", 59)+"true", strings.Repeat("true++", 10000)+"a")
	checkClean(t, formula, [][2]string{{strings.Repeat("!", 59) + "true", strings.Repeat("!", 59) + "true"}})
}

// nest says how something is open: what is repeated ahead of an inner part, what is repeated behind it, and how many are open for each.
type nest struct {
	sort          int
	before, after string
	inner         string
	each          int
}

// nests are all ways in which something may be open.
var nests = []nest{
	{term, "(", ")", "x", 1}, {term, "-", "", "x", 1}, {term, "f(", ")", "x", 1}, {term, "-(", ")", "x", 2}, {term, "x+-f(", ")", "x", 2}, {term, "x*(", ")", "x", 1}, {term, "(", ")'", "x", 1}, {term, "(", ")^2", "x", 1},
	{formula, "!", "", "true", 1}, {formula, "forall x.", "", "true", 1}, {formula, "exists x.", "", "true", 1}, {formula, "(", ")", "true", 1}, {formula, "@(", ")", "true", 1}, {formula, "[a]", "", "true", 1}, {formula, "<|a|>", "", "true", 1}, {formula, "[a!;b]", "", "true", 1}, {formula, "[?", "]true", "true", 1}, {formula, "<|?", "|>true", "true", 1}, {formula, "[{?", "}*]true", "true", 2}, {formula, "true->", "", "true", 1}, {formula, "true<->", "", "true", 1}, {formula, "true->x=1<->", "", "true", 1}, {formula, "true|p()&q(x)->", "", "true", 1}, {formula, "(true->", ")", "true", 2}, {formula, "!forall x.[a]", "", "true", 3}, {formula, "[{x'=f&", "}]true", "true", 2}, {formula, "x=1|(", ")", "true", 1},
	{program, "{", "}", "a", 1}, {program, "{", "}*", "a", 1}, {program, "{", "}@", "a", 1}, {program, "b;{", "}", "a", 1}, {program, "{b++{", "}}", "a", 2}, {program, "{x'=1&[", "]true}", "a", 2}, {program, "?[", "]true", "a", 1}, {program, "?!<|", "|>true", "a", 2},
}

// of returns the text with so many open, and something else behind the inner part.
func (n nest) of(count int, behind string) string {
	return strings.Repeat(n.before, count) + n.inner + behind + strings.Repeat(n.after, count)
}

// TestOpen: 200 may be open at once, and one more is an ErrLimit ahead of what follows it.
func TestOpen(t *testing.T) {
	for _, n := range nests {
		most := 200 / n.each
		offset := len(strings.Repeat(n.before, most) + n.inner)
		checkError(t, n.of(most, "$"), n.sort, offset, api.ErrSyntax)
		checkErrors(t, n.sort, api.ErrLimit, n.of(most+1, "$"), n.of(most+1, ""), n.of(2000, "$"))
		if _, _, e := text.Parse(n.of(most, ""), n.sort); e == api.ErrSyntax {
			t.Errorf("%s 200 times is no text", n.before)
		}
	}
	// brackets that leave no node
	checkParse(t, strings.Repeat("(", 200)+"x"+strings.Repeat(")", 200), term, v("x"))
	checkParse(t, strings.Repeat("(", 200)+"x = 1"+strings.Repeat(")", 200), formula, of(api.FEq, v("x"), num(1)))
	checkParse(t, strings.Repeat("(", 200)+"x"+strings.Repeat(")", 200)+" = 1", formula, of(api.FEq, v("x"), num(1)))
	checkParse(t, strings.Repeat("{", 200)+"a"+strings.Repeat("}", 200), program, named(api.PSys, "a"))
	checkErrors(t, formula, api.ErrLimit, strings.Repeat("(", 201)+"x"+strings.Repeat(")", 201)+" = 1")
}

// TestOpenTogether: all kinds count together, from their first token on.
func TestOpenTogether(t *testing.T) {
	nots, minuses, parens := strings.Repeat("!", 199), strings.Repeat("-", 199), strings.Repeat("(", 199)
	checkMarked(t, formula, nots+"!~$", nots+"forall~$", nots+"exists x~$", nots+"[~$", nots+"<|~$", nots+"[a]~$", nots+"true -> ~$", nots+"@(~$", nots+"-~$", nots+"x = (~$", nots+"x = f(~$", nots+"p(~$)", nots+"p{}~$", nots+"p()~$", nots+"[a;~$")
	full := nots + "!"
	checkErrors(t, formula, api.ErrLimit, full+"!$", full+"forall$", full+"exists$", full+"[$", full+"<|$", full+"@($", full+"-$", full+"x = ($", full+"x = f($", full+"x = f{$", full+"(true$)", full+"p($)", full+"p{$}", full+"p{}", full+"p()", full+"(x$) = 1", full+"f($) = 1", full+"f{} = 1", full+"[a]true", nots+"[{a}]true", nots+"[?!true]true", nots+"[?[a]true]true")
	checkMarked(t, formula, full+"~$", full+"@~$", full+"true ~$", full+"x = ~$", full+"x - ~$", full+"x = 1~(", nots+"[a]true ~$")
	// a bracket that nothing closes is found to be one before it is open
	checkMarked(t, formula, full+"~(true", full+"p~(x", full+"p~{")
	checkErrors(t, term, api.ErrLimit, minuses+"-(", minuses+"--", minuses+"-f{}", minuses+"-f()", minuses+"-f(", minuses+"((", parens+"f(-", parens+"(f{}", parens+"-(")
	checkMarked(t, term, minuses+"(~", minuses+"-f ~$", minuses+"-x - ~", minuses+"f{}~$", parens+"f()~", parens+"-~", parens+"(x ^ 2~")
	braces := strings.Repeat("{", 199)
	checkErrors(t, program, api.ErrLimit, braces+"{{", braces+"{?!", braces+"{x := -", braces+"{x := (", braces+"?[{", braces+"{x' = 1 & (true)}", braces+"{{x' = 1", braces+"?true -> true -> ", braces+"?!x = (")
	checkMarked(t, program, braces+"{x' = ~$", braces+"{?~$", braces+"?[a~$", braces+"?!~$", braces+"x := -~$", braces+"{a}*; {a~$", braces+"?true -> ~$")
}

// TestClosed: what is closed counts no longer.
func TestClosed(t *testing.T) {
	again := func(s string) string { return strings.Repeat(s, 300) }
	checkMarked(t, term, again("(x) + ")+mark+"$", again("-x - ")+mark+"$", again("f(x) * ")+mark+"$", again("f() + ")+mark+"$", again("f{} + ")+mark+"$", again("(x)' - ")+mark+"$", again("-(-x) ^ 2 * ")+mark+"$")
	checkMarked(t, formula, again("(true) & ")+mark+"$", again("!true | ")+mark+"$", again("(true -> true) & ")+mark+"$", again("(true <-> true) & ")+mark+"$", again("[a]true | ")+mark+"$", again("<|a|>true & ")+mark+"$", again("forall x. x = 1 & ")+mark+"$", again("exists x. true | ")+mark+"$", again("p() & ")+mark+"$", again("p(x) & ")+mark+"$", again("p{} & ")+mark+"$", again("@(true) & ")+mark+"$", again("(x) = 1 & ")+mark+"$", again("[?true -> true]true & ")+mark+"$")
	checkMarked(t, program, again("{a}; ")+mark+"$", again("{a}*; ")+mark+"$", again("{x' = 1 & true} ++ ")+mark+"$", again("?true -> true; ")+mark+"$", again("?[a]true ++ ")+mark+"$", again("x := -y; ")+mark+"$")
	checkMarked(t, formula, again("true & ")+strings.Repeat("true -> ", 200)+mark+"$")
}

// TestSlow: texts that make the parser look ahead as often as it can.
func TestSlow(t *testing.T) {
	filler := strings.Repeat("()", 29000)
	inside := strings.Repeat("(", 200) + "true & (" + filler + ")" + strings.Repeat(")", 200)
	if _, _, e := text.Parse(inside, formula); e != api.ErrLimit {
		t.Errorf("201 brackets around many are %d", e)
	}
	wide := strings.Repeat("(", 199) + "true" + strings.Repeat(" & (true)", 6000) + strings.Repeat(")", 199)
	if _, _, e := text.Parse(wide, formula); e != api.ErrLimit {
		t.Errorf("a wide formula is %d", e)
	}
	comments := "p#" + strings.Repeat("(", 50000) + "\n()"
	checkParse(t, comments, formula, named(api.FPred, "p"))
}
