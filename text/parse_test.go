package text_test

import (
	"strings"
	"testing"

	"isochrone/api"
	"isochrone/text"
	"isochrone/tree"
)

// example is a tree and the text that Print gives it.
type example struct {
	sort int
	text string
	n    api.Node
}

// examples have each operator.
func examples() []example {
	x, y, one := v("x"), v("y"), num(1)
	isTrue, a, b := of(api.FTrue), named(api.PSys, "a"), named(api.PSys, "b")
	p, q, eq := named(api.FAny, "P"), named(api.FPred, "q"), of(api.FEq, x, one)
	rate, rest := named(api.PRate, "x", one), named(api.PRest, "c")
	return []example{
		{term, "0", num(0)}, {term, "1234567890123456789", num(1234567890123456789)}, {term, "x", x}, {term, "Ab1", v("Ab1")}, {term, "x'", named(api.TPrime, "x")}, {term, "(-x)", of(api.TNeg, x)}, {term, "(-(-1))", of(api.TNeg, of(api.TNeg, one))},
		{term, "(x + y)", of(api.TAdd, x, y)}, {term, "(x - y)", of(api.TSub, x, y)}, {term, "(x * y)", of(api.TMul, x, y)}, {term, "(x / 2)", of(api.TDiv, x, num(2))}, {term, "(x ^ 3)", of(api.TPow, x, num(3))}, {term, "((x + 1) ^ 0)", of(api.TPow, of(api.TAdd, x, one), num(0))}, {term, "((-x) ^ 2)", of(api.TPow, of(api.TNeg, x), num(2))}, {term, "(-(x ^ 2))", of(api.TNeg, of(api.TPow, x, num(2)))},
		{term, "f()", named(api.TFun, "f")}, {term, "f(x)", named(api.TFun, "f", x)}, {term, "f((x + y))", named(api.TFun, "f", of(api.TAdd, x, y))}, {term, "f(g(_))", named(api.TFun, "f", named(api.TFun, "g", of(api.TDot)))}, {term, "f{}", named(api.TAny, "f")}, {term, "(x)'", of(api.TDiff, x)}, {term, "((x + y))'", of(api.TDiff, of(api.TAdd, x, y))}, {term, "((-x))'", of(api.TDiff, of(api.TNeg, x))}, {term, "(f{})'", of(api.TDiff, named(api.TAny, "f"))}, {term, "_", of(api.TDot)},
		{formula, "true", isTrue}, {formula, "false", of(api.FFalse)}, {formula, "x = 1", eq}, {formula, "x != 1", of(api.FNe, x, one)}, {formula, "x < 1", of(api.FLt, x, one)}, {formula, "x <= 1", of(api.FLe, x, one)}, {formula, "x > 1", of(api.FGt, x, one)}, {formula, "x >= 1", of(api.FGe, x, one)}, {formula, "(x + y) < (-x)", of(api.FLt, of(api.TAdd, x, y), of(api.TNeg, x))}, {formula, "(x)' = x'", of(api.FEq, of(api.TDiff, x), named(api.TPrime, "x"))},
		{formula, "!x = 1", of(api.FNot, eq)}, {formula, "!!P{}", of(api.FNot, of(api.FNot, p))}, {formula, "!(P{} & q())", of(api.FNot, of(api.FAnd, p, q))}, {formula, "(P{} & x = 1)", of(api.FAnd, p, eq)}, {formula, "(P{} | q())", of(api.FOr, p, q)}, {formula, "(P{} -> q())", of(api.FImp, p, q)}, {formula, "(P{} <-> q())", of(api.FIff, p, q)}, {formula, "((P{} & q()) | (q() -> P{}))", of(api.FOr, of(api.FAnd, p, q), of(api.FImp, q, p))},
		{formula, "forall x. x = 1", named(api.FAll, "x", eq)}, {formula, "exists x. (P{} & q())", named(api.FEx, "x", of(api.FAnd, p, q))}, {formula, "forall x. !exists y. true", named(api.FAll, "x", of(api.FNot, named(api.FEx, "y", isTrue)))}, {formula, "[a]x = 1", of(api.FBox, a, eq)}, {formula, "[a][b]P{}", of(api.FBox, a, of(api.FBox, b, p))}, {formula, "<|a|>P{}", of(api.FDia, a, p)}, {formula, "[{a ; b}](P{} & q())", of(api.FBox, of(api.PSeq, a, b), of(api.FAnd, p, q))}, {formula, "<|{a ++ b}|>!P{}", of(api.FDia, of(api.PAlt, a, b), of(api.FNot, p))},
		{formula, "p()", named(api.FPred, "p")}, {formula, "p(x')", named(api.FPred, "p", named(api.TPrime, "x"))}, {formula, "p((x + y))", named(api.FPred, "p", of(api.TAdd, x, y))}, {formula, "P{}", p}, {formula, "@(P{})", of(api.FDiff, p)}, {formula, "@((P{} & x = 1))", of(api.FDiff, of(api.FAnd, p, eq))},
		{program, "x := 1", named(api.PAssign, "x", one)}, {program, "x := (x + y)", named(api.PAssign, "x", of(api.TAdd, x, y))}, {program, "x' := y", named(api.PPrime, "x", y)}, {program, "x := *", named(api.PChoose, "x")}, {program, "?x = 1", of(api.PTest, eq)}, {program, "?(P{} | q())", of(api.PTest, of(api.FOr, p, q))}, {program, "?[a]P{}", of(api.PTest, of(api.FBox, a, p))},
		{program, "{x' = 1 & true}", of(api.PFlow, rate, isTrue)}, {program, "{c.. & P{}}", of(api.PFlow, rest, p)}, {program, "{x' = 1, y' = (-x), c.. & (P{} & q())}", of(api.PFlow, rate, named(api.PRate, "y", of(api.TNeg, x)), rest, of(api.FAnd, p, q))},
		{program, "{a ; b}", of(api.PSeq, a, b)}, {program, "{a ++ b}", of(api.PAlt, a, b)}, {program, "{{a ; b} ; {b ++ a}}", of(api.PSeq, of(api.PSeq, a, b), of(api.PAlt, b, a))}, {program, "{a}*", of(api.PLoop, a)}, {program, "{a}@", of(api.PDual, a)}, {program, "{{a ; b}}*", of(api.PLoop, of(api.PSeq, a, b))}, {program, "{{a ++ b}}@", of(api.PDual, of(api.PAlt, a, b))}, {program, "{{a}*}*", of(api.PLoop, of(api.PLoop, a))}, {program, "{{a}*}@", of(api.PDual, of(api.PLoop, a))}, {program, "{x := *}*", of(api.PLoop, named(api.PChoose, "x"))}, {program, "{{x' = 1 & true}}*", of(api.PLoop, of(api.PFlow, rate, isTrue))}, {program, "{a! ; {x := *}@}", of(api.PSeq, named(api.PGame, "a"), of(api.PDual, named(api.PChoose, "x")))}, {program, "a", a}, {program, "a!", named(api.PGame, "a")},
	}
}

// TestOperators: what is printed and read of each operator.
func TestOperators(t *testing.T) {
	seen := map[int]int{}
	for _, c := range examples() {
		count(c.n, seen)
		if got, e := text.Print(c.n); got != c.text || e != api.OK {
			t.Errorf("%v is printed as %q, %d, not %q", c.n, got, e, c.text)
		}
		checkParse(t, c.text, c.sort, c.n)
		checkClean(t, c.sort, [][2]string{{c.text, c.text}})
	}
	for op := range 200 {
		if tree.Sort(op) > 0 && seen[op] == 0 {
			t.Errorf("operator %d is nowhere", op)
		}
	}
}

// TestOrder: which operators bind closer, and from which side.
func TestOrder(t *testing.T) {
	checkClean(t, term, [][2]string{
		{"a + b + c", "((a + b) + c)"}, {"a - b - c", "((a - b) - c)"}, {"a - b + c - d", "(((a - b) + c) - d)"}, {"a * b * c", "((a * b) * c)"}, {"a / 2 / 3", "((a / 2) / 3)"}, {"a / 2 * b", "((a / 2) * b)"}, {"a + b * c - d", "((a + (b * c)) - d)"}, {"a * b + c * d", "((a * b) + (c * d))"}, {"a - (b - c)", "(a - (b - c))"}, {"(a + b) * c", "((a + b) * c)"}, {"a * (b * c)", "(a * (b * c))"},
		{"-a + b", "((-a) + b)"}, {"-a * b", "((-a) * b)"}, {"a * -b", "(a * (-b))"}, {"a - -b", "(a - (-b))"}, {"--a", "(-(-a))"}, {"-a ^ 2", "(-(a ^ 2))"}, {"(-a) ^ 2", "((-a) ^ 2)"}, {"a * b ^ 2", "(a * (b ^ 2))"}, {"2 ^ 3 * 4", "((2 ^ 3) * 4)"}, {"-(a + b)", "(-(a + b))"}, {"(a ^ 2) ^ 3", "((a ^ 2) ^ 3)"}, {"a / (2)", "(a / 2)"}, {"f(a) ^ 2", "(f(a) ^ 2)"}, {"f{} ^ 2", "(f{} ^ 2)"}, {"(a)' ^ 2", "((a)' ^ 2)"}, {"a' ^ 2", "(a' ^ 2)"}, {"_ ^ 2", "(_ ^ 2)"}, {"((a))'", "(a)'"}, {"(((a)) + ((b)))", "(a + b)"}, {"((a)')", "(a)'"},
	})
	checkClean(t, formula, [][2]string{
		{"A{} & B{} & C{}", "((A{} & B{}) & C{})"}, {"A{} | B{} | C{}", "((A{} | B{}) | C{})"}, {"A{} -> B{} -> C{}", "(A{} -> (B{} -> C{}))"}, {"A{} <-> B{} <-> C{}", "(A{} <-> (B{} <-> C{}))"}, {"A{} | B{} & C{}", "(A{} | (B{} & C{}))"}, {"A{} & B{} | C{}", "((A{} & B{}) | C{})"}, {"A{} -> B{} | C{}", "(A{} -> (B{} | C{}))"}, {"A{} | B{} -> C{}", "((A{} | B{}) -> C{})"}, {"A{} <-> B{} -> C{}", "(A{} <-> (B{} -> C{}))"}, {"A{} -> B{} <-> C{}", "((A{} -> B{}) <-> C{})"}, {"A{} -> B{} -> C{} <-> D{} -> E{}", "((A{} -> (B{} -> C{})) <-> (D{} -> E{}))"}, {"A{} & (B{} & C{})", "(A{} & (B{} & C{}))"}, {"(A{} -> B{}) -> C{}", "((A{} -> B{}) -> C{})"},
		{"!A{} & B{}", "(!A{} & B{})"}, {"A{} & !B{} | C{}", "((A{} & !B{}) | C{})"}, {"forall x. A{} & B{}", "(forall x. A{} & B{})"}, {"exists x. A{} -> B{}", "(exists x. A{} -> B{})"}, {"[a]A{} & B{}", "([a]A{} & B{})"}, {"<|a|>A{} | B{}", "(<|a|>A{} | B{})"}, {"!forall x. [a]<|b|>A{} -> B{}", "(!forall x. [a]<|b|>A{} -> B{})"}, {"!x = 1", "!x = 1"}, {"! x + 1 = 1 & A{}", "(!(x + 1) = 1 & A{})"}, {"(((A{})))", "A{}"}, {"(x = 1)", "x = 1"}, {"a + b = c - d", "(a + b) = (c - d)"}, {"a * b < c & d < e", "((a * b) < c & d < e)"},
	})
	checkClean(t, program, [][2]string{
		{"a ; b ; c", "{{a ; b} ; c}"}, {"a ++ b ++ c", "{{a ++ b} ++ c}"}, {"a ; b ++ c ; d", "{{a ; b} ++ {c ; d}}"}, {"a ++ b ; c ++ d", "{{a ++ {b ; c}} ++ d}"}, {"a ; {b ; c}", "{a ; {b ; c}}"}, {"{a ++ b} ; c", "{{a ++ b} ; c}"}, {"{{a}}", "a"}, {"{{{a}}*}", "{a}*"}, {"{a ; b}*", "{{a ; b}}*"}, {"{{a ; b}}*", "{{a ; b}}*"}, {"{a}* ; b", "{{a}* ; b}"}, {"{{a}@}@", "{{a}@}@"}, {"?A{} -> B{} ; a", "{?(A{} -> B{}) ; a}"}, {"?x = 1 ++ a", "{?x = 1 ++ a}"}, {"?(x = 1) ++ a", "{?x = 1 ++ a}"}, {"?(x) = 1 ++ a", "{?x = 1 ++ a}"}, {"x := y + 1 ; y := x", "{x := (y + 1) ; y := x}"},
	})
}

// TestWords: the four words are names where only a name can stand, and tree.Check refuses them there.
func TestWords(t *testing.T) {
	for _, word := range []string{"true", "false", "forall", "exists", "abcdefghijklm", strings.Repeat("a", 5000)} {
		checkErrors(t, term, api.ErrForm, word, word+"'", word+"(x)", word+"()", word+"{}", "x + "+word, "-"+word, "("+word+")'", word+" ^ 2", "f("+word+")")
		checkErrors(t, formula, api.ErrForm, "x = "+word, "("+word+") = 1", "("+word+" + 1) > 0", "-"+word+" = 1", "1 + "+word+"(x) = 1", "forall "+word+". true", "exists "+word+". true", "["+word+"]true", "<|"+word+"!|>true", "p("+word+")", "["+word+" := 1]true")
		checkErrors(t, program, api.ErrForm, word, word+"!", word+" := 1", word+" := *", word+"' := 1", "{"+word+"' = 1 & true}", "{"+word+".. & true}", "{x' = 1, "+word+".. & true}", "{"+word+"}*", "a ; "+word, "?x = "+word)
	}
	checkErrors(t, formula, api.ErrForm, "abcdefghijklm{}", "abcdefghijklm(x)", "abcdefghijklm = 1")
	// a formula that begins with one of them is what the word says
	checkMarked(t, formula, "true~(x)", "true~(x) = 1", "true~()", "true~{}", "true~{", "true~(", "true ~= 1", "true~' = 1", "true ~+ 1 = 2", "false ~!= x", "false~(x)", "forall ~= 1", "forall~' = 1", "forall~(x) = 1", "exists~{}", "exists~", "true ~x", "true ~true")
	for _, word := range []string{"truE", "True", "trues", "false1", "forall1", "existsx"} {
		checkClean(t, formula, [][2]string{{word + " = 1", word + " = 1"}, {word + "{}", word + "{}"}, {word + "(x)", word + "(x)"}})
	}
}

// TestRefused: what follows the grammar, but is not well formed.
func TestRefused(t *testing.T) {
	checkErrors(t, term, api.ErrForm, "x / y", "x / 0", "x / (y)", "x / -2", "x / 2 ^ 2", "x / f()", "x / _", "x ^ 21", "x ^ 4294967296", "((x)')'", "(x')'", "(f((x)'))'", "x + ((y')')'")
	checkErrors(t, formula, api.ErrForm, "x / y = 1", "@(!true)", "@(true -> true)", "@(forall x. true)", "@([a]true)", "@(@(true))", "@(x' = 1)", "@(((x)')' = 1)", "[{x' = 1, x' = 2 & true}]true", "true & x ^ 99 = 1")
	checkErrors(t, program, api.ErrForm, "{x' = 1, x' = 2 & true}", "{c.., x' = 1 & true}", "{c.., d.. & true}", "{x' = 1, c.., c.. & true}", "{x' = x' & true}", "{x' = (x)' & true}", "{x' = 1 & x' = 1}", "{x' = 1 & @(true)}", "x := 1 / x", "?x ^ 21 = 1")
	checkClean(t, term, [][2]string{{"x / 1", "(x / 1)"}, {"x / 00021", "(x / 21)"}, {"x ^ 20", "(x ^ 20)"}, {"x ^ 007", "(x ^ 7)"}, {"0 / 2", "(0 / 2)"}})
	checkClean(t, formula, [][2]string{{"@((x)' = 1)", "@((x)' = 1)"}})
	checkClean(t, program, [][2]string{{"{x' = 1, x.. & true}", "{x' = 1, x.. & true}"}})
}

func TestNumbers(t *testing.T) {
	// 2^640 is the first number of 21 words.
	const least = "4562440617622195218641171605700291324893228507248559930579192517899275167208677386505912811317371399778642309573594407310688704721375437998252661319722214188251994674360264950082874192246603776"
	zeros := func(count int) string { return strings.Repeat("0", count) }
	nines := func(count int) string { return strings.Repeat("9", count) }
	checkParse(t, least[:len(least)-1]+"5", term, digits(t, least[:len(least)-1]+"5"))
	checkErrors(t, term, api.ErrForm, least, zeros(200-len(least))+least, nines(200), "x + "+least, "x / "+least, "x ^ "+nines(200))
	checkParse(t, nines(192), term, digits(t, nines(192)))
	checkParse(t, zeros(199)+"7", term, num(7))
	checkParse(t, zeros(200), term, num(0))
	checkParse(t, "0", term, num(0))
	checkParse(t, "007", term, num(7))
	checkMarked(t, term, mark+zeros(201), mark+nines(201), mark+zeros(200)+"7", "x + "+mark+nines(201), "x ^ "+mark+zeros(201), "x / "+mark+nines(300), "f("+mark+nines(201)+")", mark+nines(59999), "x "+mark+nines(201), "x #"+nines(300)+"\n"+mark+"7")
	checkMarked(t, formula, mark+nines(201)+" = 1", "x = "+mark+nines(201), "(x = 1) "+mark+nines(201), "(x"+mark+") "+nines(201), "("+mark+nines(201)+") = 1")
	checkMarked(t, program, "x := "+mark+nines(201), mark+nines(201))
}
