package text_test

import (
	"strings"
	"testing"

	"isochrone/api"
)

// TestBytes: each byte between two variables.
func TestBytes(t *testing.T) {
	for c := range 256 {
		s := "x" + string([]byte{byte(c)}) + "y"
		switch {
		case c >= 'a' && c <= 'z' || c >= 'A' && c <= 'Z' || c >= '0' && c <= '9':
			checkParse(t, s, term, v(s))
		case c == '+' || c == '-' || c == '*':
			op := map[int]int{'+': api.TAdd, '-': api.TSub, '*': api.TMul}[c]
			checkParse(t, s, term, of(op, v("x"), v("y")))
		case c == '/':
			checkErrors(t, term, api.ErrForm, s)
		case c == '#':
			checkParse(t, s, term, v("x"))
		case c == ' ' || c == '\t' || c == '\n' || c == '^' || c == '{' || c == '\'':
			checkError(t, s, term, 2, api.ErrSyntax)
		case c == '(':
			checkError(t, s, term, 3, api.ErrSyntax)
		default:
			checkError(t, s, term, 1, api.ErrSyntax)
		}
	}
}

// TestLongestSigns: of the signs that fit, the longest one is taken.
func TestLongestSigns(t *testing.T) {
	checkClean(t, formula, [][2]string{
		{"x<-1", "x < (-1)"}, {"x<--1", "x < (-(-1))"}, {"x<=-1", "x <= (-1)"}, {"x>-1", "x > (-1)"}, {"x>=-1", "x >= (-1)"}, {"x=-1", "x = (-1)"}, {"x!=-1", "x != (-1)"}, {"x--1=0", "(x - (-1)) = 0"}, {"(x)<-1", "x < (-1)"}, {"x<y&y<-z", "(x < y & y < (-z))"},
		{"x'=y'", "x' = y'"}, {"(x)'=x'", "(x)' = x'"}, {"x<1->y<1", "(x < 1 -> y < 1)"}, {"p()<->q()", "(p() <-> q())"}, {"p()->q()", "(p() -> q())"}, {"(p())<->q()", "(p() <-> q())"}, {"(x=1)->!!p()", "(x = 1 -> !!p())"},
		{"p()|<|a|>q()", "(p() | <|a|>q())"}, {"<|a!|>!p()", "<|a!|>!p()"}, {"<|?p()|q()|>r()", "<|?(p() | q())|>r()"}, {"<|?x=1|>true", "<|?x = 1|>true"},
	})
	checkClean(t, program, [][2]string{
		{"{x:=*}*++a!;x':=1", "{{x := *}* ++ {a! ; x' := 1}}"}, {"x:=y++x:=*", "{x := y ++ x := *}"}, {"?p()++a", "{?p() ++ a}"}, {"?(p())++a", "{?p() ++ a}"}, {"{x'=1,c..&true}", "{x' = 1, c.. & true}"}, {"{c..&<|a|>true}", "{c.. & <|a|>true}"},
	})
	checkMarked(t, term, "x ~++ y", "x + ~+ y", "x - ~> y", "x~->y", "x~<=y", "x~..", "x~:=1", "x~|>")
	checkMarked(t, formula, "x ~<|y", "x ~<-> y", "x <- ~> y", "x < ~|y", "x ~: = 1", "x ~! = 1", "x < ~= 1", "x =~> 1", "x =~< 1", "x <~>= 1", "x = 1 ~<= 2", "p() |~|> q()", "p() - ~> q()", "p() < ~-> q()", "~< |a|>true", "<|a~| >true", "[a~|>true", "forall x~.. true", "x !=~= 1")
	checkMarked(t, program, "x ~: = 1", "x~:", "x :=~= 1", "a ~+ + b", "a ++ ~+ b", "a ++~+ b", "{c~. . & true}", "{c..~. & true}", "{x'= 1, c..~..& true}", "{a~|>")
}

// TestBlanks: blanks, tabs, line feeds and comments stand between tokens and nowhere else.
func TestBlanks(t *testing.T) {
	checkClean(t, term, [][2]string{
		{" x", "x"}, {"\t\n x \n\t", "x"}, {"x#", "x"}, {"x # y", "x"}, {"x # + ( $ é \x00\xff", "x"}, {"#\nx", "x"}, {"# 1\n# 2\n\n#\nx + # \r\n y", "(x + y)"}, {"x #a#b\n+ y", "(x + y)"}, {"x ' ", "x'"}, {"x\n'", "x'"}, {"f ( x )", "f(x)"}, {"f # )\n(#\n)", "f()"}, {"f\t{\n}", "f{}"}, {"( x ) '", "(x)'"}, {"x ^\n2", "(x ^ 2)"},
	})
	checkClean(t, formula, [][2]string{
		{"( # )\n true )", "true"}, {"(x #)\n) #= 2\n = 1", "x = 1"}, {"(true)#' + -\n", "true"}, {"(x = 1 #(\n)", "x = 1"}, {"forall\nx\t.true", "forall x. true"}, {"[a]<|b|> @ ( true )", "[a]<|b|>@(true)"}, {"p # (\n ( ) & P # {\n { }", "(p() & P{})"},
	})
	checkClean(t, program, [][2]string{
		{"x # := 2\n:= 1", "x := 1"}, {"x ' := 1", "x' := 1"}, {"a !", "a!"}, {"{ a } *", "{a}*"}, {"{#'=\nc # '\n..&true}", "{c.. & true}"}, {"{ x # :=\n ' # :=\n = 1 & true}", "{x' = 1 & true}"}, {"?true#++", "?true"},
	})
	checkMarked(t, term, "~", " \t\n~", "# x~", "# x\n ~", "x +~", "x + # y~", "x + # y\n~", "x ~y", "1 ~2", "1~x", "x #\n~y", "~\rx", "x~\r", "x~\r\n", "x~\v", "x~\f", "x~\u00a0", "x # \n ~$", "f(x # )~", "a # \n + ~$", "# é\n~é")
}

// TestIllegal: a byte that begins no token is an error where it is needed, not before.
func TestIllegal(t *testing.T) {
	texts := map[int][]string{
		term:    {"~$", "x~$", "x + ~$", "x ~y $", "(x~$)", "f(~$)", "f{~$}", "x ^ ~$", "(x)~$", "x / ~$2"},
		formula: {"~$", "x~$", "x = ~$", "x = 1 ~$", "true ~$", "true ~true $", "(true) ~$", "(x~$ = 1)", "(x~$) = 1", "(x) = 1 ~$", "(~$x) = 1", "~(x = 1 $", "p(~$)", "p() ~$", "p{} ~$", "forall ~$", "forall x~$", "[a~$]true", "!~$"},
		program: {"~$", "a~$", "a ;~$", "x := ~$", "x := *~$", "x' ~$", "{~$", "{a~$", "{x'~$", "{x' = 1 & true~$", "{x' = 1, ~$", "?~$", "{a}~$"},
	}
	// what stands behind brackets that end no term is not needed to read them
	texts[formula] = append(texts[formula], "(x~) $", "(x +~) $", "(x = 1 ~y) $", "p{~x} $", "p(x ~= 1) $")
	for _, c := range []string{"$", "%", "\"", "`", "\\", ":", "\x00", "\x7f", "\x80", "\xff", "é", "∀", "\r"} {
		for sort, list := range texts {
			for _, s := range list {
				checkMarked(t, sort, strings.ReplaceAll(s, "$", c))
			}
		}
	}
}

// TestOffsetsInTerms: the first token that cannot follow.
func TestOffsetsInTerms(t *testing.T) {
	checkMarked(t, term,
		"~", "~)", "~+ x", "~* x", "~' x", "~! x", "~[x]", "~{x}", "~@(x)", "~?",
		"x~)", "x~]", "x~= 1", "x ~:= 1", "x~, y", "x~; y", "x~!", "x~_", "x'~'", "(x)'~'", "(x)~(y)", "_~_", "2~x", "2~'", "1~.5", "x ~.. ", "true ~& true", "-x ~y",
		"(~", "(~)", "(x~", "((x)~", "(x~]", "(x~}", "x - ~", "-~", "--~*", "x * ~/ y",
		"f(~", "f(x~", "f(x~, y)", "f(x~]", "f{~", "f{~x}", "f{~)", "f{}~'", "f(x)~'", "f()~(x)",
		"x ^~", "x ^ ~y", "x ^ ~-1", "x ^ ~(2)", "x ^ 2 ~^ 3", "(x ^ ~+)", "x ^ 2~'", "-x ^ ~-1",
	)
}

func TestOffsetsInFormulas(t *testing.T) {
	checkMarked(t, formula,
		"~", "~)", "~]", "~& true", "~= 1", "~* x = 1", "~:= 1", "~{x}", "~? true",
		"x~", "1~", "_~", "-x~", "x + y~", "x~)", "x ~& true", "x ~-> true", "x = ~", "x = ~)", "x = ~= 1", "x = 1 ~= 2", "x < 1 ~< 2", "x = 1 + ~", "x = 1 ~x", "x' ~' = 1",
		"true ~true", "true ~x", "true ~]", "true &~", "true & ~& true", "true |~", "true | ~-> true", "true ->~", "true <->~", "true -> true ~true", "true -> ~<-> true",
		"!~", "!~)", "forall~", "forall ~.", "forall ~1. true", "forall ~(x). true", "forall x~", "forall x ~= 1", "forall x ~true", "forall x.~", "exists x. ~.", "exists x. x~",
		"[~", "[~]true", "[a~", "[a~)true", "[a]~", "[a]~]", "<|~|>true", "<|a~", "<|a~]true", "<|a|>~", "<|x := ~|>true",
		"@~", "@ ~true", "@ ~x = 1", "@ ~{}", "@(~", "@(~)", "@(true~", "@(true~]", "@(x~)", "@(true)~'",
		"p() ~x", "p() ~p()", "p(x) ~y", "P{} ~{}", "P{} ~(true)",
	)
}

func TestOffsetsInPrograms(t *testing.T) {
	checkMarked(t, program,
		"~", "~}", "~1", "~(a)", "~[a]", "~*", "~;", "~:= 1", "~_",
		"{~", "{~}", "{a~", "{a~]", "{a~)", "{a}~}", "{a ;~}", "a ~b", "a ~(x)", "a ~{b}", "a ;~", "a ; ~; b", "a ++~", "a ++ ~++ b", "a ~+ b", "a~, b", "a~*", "a~@",
		"x :=~", "x := ~:=", "x := ~; y := 1", "x := * ~1", "x := * ~* 2", "x := 1 ~:= 2", "x := y ~= 1", "x~= 1", "x'~", "x' ~= 1", "x' :=~", "x' := ~*", "x'~' := 1",
		"?~", "?~; a", "? x~", "? x~; a", "?true ~true", "a!~!", "a!~:= 1",
		"{a}*~*", "{a}*~@", "{a}@~@", "{a}~!", "{a}~'", "{a}* ~b",
	)
	checkMarked(t, program,
		"{~' = 1 & true}", "{x ~= 1 & true}", "{x' ~1}", "{a' ~}", "{x' :=~}", "{x' := 1~, y' := 1}", "{x' := 1 ~& true}", "{x := x' ~= 1 & true}", "{x := 1 ~& true}", "{a! ~& true}",
		"{x' =~", "{x' = ~& true}", "{x' = ~* & true}", "{x' = 1~", "{x' = 1~}", "{x' = 1 ~; a}", "{x' = 1 ~++ a}", "{x' = 1 ~= 2 & true}", "{x' = 1 &~}", "{x' = 1 & x~}", "{x' = 1 & true~", "{x' = 1 & true~)", "{x' = 1 & true}~*", "{x' = 1 & true}~@", "{{x' = 1 & true}~", "{{x' = 1 & true} ~& true}",
		"{x' = 1, ~& true}", "{x' = 1, ~1 & true}", "{x' = 1, y ~& true}", "{x' = 1, y~:= 1 & true}", "{x' = 1, y' ~:= 1 & true}", "{x' = 1, y'~' = 1 & true}", "{x' = 1, y.. ~y & true}",
		"{c..~}", "{c..~' = 1 & true}", "{c.. ~= 1 & true}", "{c..,~}", "{c.. &~", "{c~.}", "{c~& true}", "{c~, d.. & true}",
	)
}
