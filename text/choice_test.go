package text_test

import (
	"strings"
	"testing"

	"isochrone/api"
)

// TestChoices: an atom that begins with a bracket, or with a name and a bracket, is a comparison if a sign that only terms have on their left stands behind the closing bracket.
func TestChoices(t *testing.T) {
	for _, sign := range strings.Fields("+ - * /") {
		checkClean(t, formula, [][2]string{{"(x)" + sign + "2 = 1", "(x " + sign + " 2) = 1"}, {"f(x) " + sign + " 2 = 1", "(f(x) " + sign + " 2) = 1"}, {"f()" + sign + "2 = 1", "(f() " + sign + " 2) = 1"}, {"f{}" + sign + "2 = 1", "(f{} " + sign + " 2) = 1"}})
		checkMarked(t, formula, "(x ~= 1) "+sign+" 2", "(~!true) "+sign+" 2", "p(x ~= 1) "+sign+" 2", "p(x) "+sign+" 2~", "P{} "+sign+" 2~")
	}
	for _, sign := range strings.Fields("= != < <= > >=") {
		checkClean(t, formula, [][2]string{{"(x)" + sign + "1", "x " + sign + " 1"}, {"((x))" + sign + "((1))", "x " + sign + " 1"}, {"f(x)" + sign + "1", "f(x) " + sign + " 1"}, {"f()" + sign + "1", "f() " + sign + " 1"}, {"f{}" + sign + "1", "f{} " + sign + " 1"}, {"((x)" + sign + "1)", "x " + sign + " 1"}})
		checkMarked(t, formula, "(x ~= 1) "+sign+" 2", "(x ~<= 1) "+sign+" 2", "(p(x) ~& true) "+sign+" 2", "(~) "+sign+" 1", "p{~x} "+sign+" 1", "f(x) "+sign+"~")
	}
	checkClean(t, formula, [][2]string{
		{"(x)' = 1", "(x)' = 1"}, {"(x) ^ 2 = 1", "(x ^ 2) = 1"}, {"f(x) ^ 2 = 1", "(f(x) ^ 2) = 1"}, {"f{} ^ 2 = 1", "(f{} ^ 2) = 1"}, {"-(x) = 1", "(-x) = 1"}, {"1 + (x) = 1", "(1 + x) = 1"}, {"(x + y) * z = 1", "((x + y) * z) = 1"},
		{"(x = 1)", "x = 1"}, {"((x) = 1)", "x = 1"}, {"((x = 1))", "x = 1"}, {"((x) = (1))", "x = 1"}, {"(((x)) = 1) & ((true))", "(x = 1 & true)"}, {"((x + y) * z = 1)", "((x + y) * z) = 1"},
		{"(p(x))", "p(x)"}, {"(p(x)) & p(x) = 1", "(p(x) & p(x) = 1)"}, {"p((x)) | p{}", "(p(x) | p{})"}, {"p(f(x) + g{})", "p((f(x) + g{}))"}, {"([a]true)", "[a]true"}, {"([{a}*]true)", "[{a}*]true"}, {"(<|{a ++ b}|>true)", "<|{a ++ b}|>true"}, {"[?(true)]true", "[?true]true"},
	})
	checkErrors(t, formula, api.ErrForm, "(true) = 1", "(true)' = 1", "(forall) < 1", "p(true)", "(false) / 2 = 1")
	// the choice is made, whatever else the text could have been
	checkMarked(t, formula, "(x ~= 1)'", "(true)'~", "(x)'~", "(x)' + ~", "f(x)~' = 1", "f{}~' = 1", "(x)'~' = 1", "p(x) ^ ~true", "(x) + 1~", "(x) + 1 ~& true", "(x + y) * z~")
	checkMarked(t, formula, "(x~)", "(x~) 1", "(x~) y", "(x~) & true", "(x~) | true", "(x~) -> true", "(x~) <-> true", "(x~) )", "(x~) ]", "(x~) ++ 1", "(x~) <| 1", "(x~) , 1", "(x~) := 1", "(x + 1~)", "((x~))", "((x~)) & true", "((x~) & true)", "(f{} + 1~)", "(-x~)", "(1~)", "(p()) ~p()", "p(x) ~x")
	checkMarked(t, program, "?(x~) ++ a", "?(x~); a", "?(x~)", "{x' = 1 & (x~)}", "{x' = 1 & (x~), a}")
}

// TestClosings: the bracket that closes an atom's first one is looked for ahead of all else. Brackets nest and match by kind, comments and all other bytes are passed over.
func TestClosings(t *testing.T) {
	checkMarked(t, formula,
		"~(", "~(x", "~(x = 1", "~(true", "~((true)", "~(]", "~(x]", "~(x = 1]", "~([)]", "~({)}", "~(x = 1})", "~(x = 1])", "~([a)true)", "~(() = 1", "~( # )", "~(true # )\n", "~($", "~(true $", "~(x + $ = 1",
		"p~(", "p~(x", "p~(x]", "p~{", "p~{]", "p~{x", "p~{)}", "P ~{ [ }", "p ~( x # )", "p~($ é",
		"true & ~(true", "!~(true", "[?~(true]true", "[?~(true]true)", "forall x. ~(true", "(true & true) & ~(true & (true)", "@(~((true)", "[a]p~(x", "@(p~{)", "~(true & p{)", "true~(",
	)
	checkMarked(t, formula, "((~) = 1)", "(~[]) = 1", "(x ~[ + ( ) ] ) = 1", "(x {~[ ] } ) = 1", "(x ~$ ) = 1", "p(~[])", "p{~[]}", "p(~{}[]())", "p{~{}[]()}", "(~<|) = 1", "(true ~|>)", "(x + ~<| a |>) = 1", "(x ~$ # ( \n) = 1", "([~$])", "(~|>)")
	// elsewhere a bracket that is not closed is an error at the token that should close it
	checkMarked(t, formula, "x = (y~", "x = f(y~", "1 + (x~", "-(x~", "@(true~", "[a~", "[{a~", "x = f{~", "1 = (x~]", "@(x = 1~]", "x = (y ~= 1")
	checkMarked(t, program, "{a~", "{a~)", "x := (y~", "x := f{~", "{x' = (y~", "{x' = 1 & true~", "?[a~", "?~(true", "?p~(x", "{x' = 1 & ~(true}", "{?~(true}")
	checkClean(t, formula, [][2]string{{"([{a}*](x) = 1)", "[{a}*]x = 1"}, {"(f(x) + g{} = 1 & [?(true)](true))", "((f(x) + g{}) = 1 & [?true]true)"}, {"( # ( [ {\n true # ) ] }\n)", "true"}, {"(x # \xff)\n) = 1", "x = 1"}})
}
