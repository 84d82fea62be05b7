package text_test

import (
	"strings"
	"testing"

	"isochrone/api"
	"isochrone/text"
	"isochrone/tree"
)

// TestRoundTrip: a tree is read from what is printed of it, which is what Clean makes of each text of it.
func TestRoundTrip(t *testing.T) {
	w := &writer{source: 3}
	seen := map[int]int{}
	for i := range 6000 {
		sort := 1 + i%3
		n := w.wellFormed(sort, 1+w.upTo(5))
		count(n, seen)
		printed, e := text.Print(n)
		if e != api.OK {
			t.Fatalf("%v is %d", n, e)
		}
		w.spare = i%2 == 0
		for _, s := range []string{printed, w.text(n, 1), w.scattered(printed), w.scattered(w.text(n, 1))} {
			checkParse(t, s, sort, n)
			checkClean(t, sort, [][2]string{{s, printed}})
		}
		if t.Failed() {
			t.FailNow()
		}
	}
	for op := range 100 {
		if tree.Sort(op) > 0 && seen[op] < 50 {
			t.Errorf("operator %d stands in %d trees", op, seen[op])
		}
	}
}

// scattered puts blanks and comments between the tokens of a text, or takes blanks away.
func (s *source) scattered(text string) string {
	var out strings.Builder
	last := ""
	for _, l := range lexemes(text) {
		gap := pick(s, []string{"", "", " ", "\n", "\t \n", "#\n", " # ( ) = $ \xff x'\n\n#}\n"})
		if gap == "" && len(lexemes(last+l.text)) != 2 {
			gap = " "
		}
		out.WriteString(gap + l.text)
		last = l.text
	}
	return out.String() + pick(s, []string{"", " ", "# end", "\n#\n"})
}

// TestDeep: the deepest trees are read again.
func TestDeep(t *testing.T) {
	for _, wrap := range []struct {
		sort  int
		inner api.Node
		by    func(n api.Node) api.Node
	}{
		{term, v("x"), func(n api.Node) api.Node { return of(api.TNeg, n) }},
		{term, v("x"), func(n api.Node) api.Node { return of(api.TAdd, num(1), n) }},
		{term, v("x"), func(n api.Node) api.Node { return named(api.TFun, "f", n) }},
		{formula, of(api.FTrue), func(n api.Node) api.Node { return of(api.FImp, named(api.FAny, "P"), n) }},
		{formula, of(api.FTrue), func(n api.Node) api.Node { return of(api.FIff, n, of(api.FTrue)) }},
		{formula, of(api.FTrue), func(n api.Node) api.Node { return of(api.FBox, named(api.PSys, "a"), n) }},
		{formula, of(api.FTrue), func(n api.Node) api.Node { return named(api.FAll, "x", n) }},
		{program, named(api.PSys, "a"), func(n api.Node) api.Node { return of(api.PSeq, n, named(api.PSys, "b")) }},
		{program, named(api.PSys, "a"), func(n api.Node) api.Node { return of(api.PLoop, n) }},
	} {
		n := wrap.inner
		for tree.Levels(n) < api.MaxNest {
			n = wrap.by(n)
		}
		printed, e := text.Print(n)
		if e != api.OK {
			t.Errorf("%d levels are %d", tree.Levels(n), e)
		}
		checkParse(t, printed, wrap.sort, n)
		if got, e := text.Print(wrap.by(n)); got != "" || e != api.ErrLimit {
			t.Errorf("one level more is %.100q, %d", got, e)
		}
	}
}

// checkWrong compares the offset of a text's error with that of the oracle, and reports whether there is one.
func checkWrong(t *testing.T, s string, sort int) bool {
	t.Helper()
	want := wrong(s, sort)
	n, at, e := text.Parse(s, sort)
	switch {
	case want >= 0 && (e != api.ErrSyntax || at != want || !tree.Equal(n, api.Node{})):
		t.Fatalf("%q as %d is %d at %d, not wrong at %d", s, sort, e, at, want)
	case want < 0 && (e == api.ErrSyntax || at != 0):
		t.Fatalf("%q as %d is %d at %d, but follows the grammar", s, sort, e, at)
	case e == api.OK && tree.Check(n, sort) != api.OK:
		t.Fatalf("%q as %d is %v", s, sort, n)
	}
	return want >= 0
}

// TestShortTexts compares all texts of a few tokens with the oracle.
func TestShortTexts(t *testing.T) {
	var extend func(s string, sort, more int, tokens []string)
	extend = func(s string, sort, more int, tokens []string) {
		checkWrong(t, s, sort)
		if more > 0 {
			for _, token := range tokens {
				extend(s+token+" ", sort, more-1, tokens)
			}
		}
	}
	extend("", term, 4, strings.Fields("x 1 ( ) ' + - ^ _ { } $"))
	extend("", formula, 4, strings.Fields("x ( ) ' - = true forall . { } !"))
	extend("", formula, 4, strings.Fields("x [ ] <| |> ! & -> true @ ( )"))
	extend("", program, 4, strings.Fields("x ' := * { } = ; ++ ! .. ,"))
	extend("{x'=1", program, 4, strings.Fields(", & x ' = .. true } *"))
}

// TestSpoiledTexts compares texts with a few wrong tokens with the oracle.
func TestSpoiledTexts(t *testing.T) {
	w := &writer{source: 11, spare: true}
	found := 0
	for i := range 4000 {
		sort := 1 + i%3
		s := w.text(w.wellFormed(sort, 2+w.upTo(3)), 1)
		for range 1 + w.upTo(2) {
			s = w.spoiled(s)
		}
		if checkWrong(t, s, sort) {
			found++
		}
		checkWrong(t, w.scattered(s), sort)
		checkWrong(t, s, 1+w.upTo(2))
	}
	if found < 2000 {
		t.Errorf("only %d texts were wrong", found)
	}
}

// spoiled changes one token of a text.
func (s *source) spoiled(text string) string {
	list := lexemes(text)
	if len(list) == 0 {
		return "x"
	}
	i := s.upTo(len(list) - 1)
	ahead, behind := text[:list[i].at], text[list[i].at+len(list[i].text):]
	other := pick(s, append(strings.Fields("x y' 1 true false forall exists f( p() P{} _ <-> <| |> <= >= != -> := ++ .. ( ) [ ] { } + - * / ^ ' = < > ! & | , ; ? @ . $ : é #"), list[s.upTo(len(list)-1)].text))
	switch s.upTo(4) {
	case 0:
		return ahead + behind
	case 1:
		return ahead + " " + other + " " + behind
	case 2:
		return ahead + other + list[i].text + behind
	case 3:
		return ahead
	default:
		return ahead + list[i].text + " " + other + behind
	}
}

// TestNoise: all texts have a result, whatever their bytes are.
func TestNoise(t *testing.T) {
	s := source(17)
	parts := strings.Fields("x y' 1 true forall f( p() P{} _ <-> <| |> <= -> := ++ .. ( ( ) ) [ ] { } + - * / ^ ' = ! & | , ; ? @ . $ # \xff")
	for range 3000 {
		var out strings.Builder
		for range s.upTo(12) {
			out.WriteString(pick(&s, parts))
			if s.upTo(2) == 0 {
				out.WriteByte(byte(s.upTo(255)))
			}
			out.WriteString(pick(&s, []string{"", " ", "\n"}))
		}
		for sort := term; sort <= program; sort++ {
			checkWrong(t, out.String(), sort)
		}
	}
}
