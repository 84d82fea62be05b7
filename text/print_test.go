package text_test

import (
	"slices"
	"strings"
	"testing"

	"isochrone/api"
	"isochrone/text"
)

// chain returns a tree of so many levels.
func chain(levels int) api.Node {
	n := v("x")
	for range levels - 1 {
		n = of(api.TNeg, n)
	}
	return n
}

// sum returns the sum of so many copies of a node, with brackets in the middle.
func sum(n api.Node, count int) api.Node {
	if count == 1 {
		return n
	}
	return of(api.TAdd, sum(n, count/2), sum(n, count-count/2))
}

func TestPrintErrors(t *testing.T) {
	x := v("x")
	for _, c := range []struct {
		want  api.Errno
		trees []api.Node
	}{
		{api.ErrSort, []api.Node{{}, of(14), of(-1), of(19), of(40), of(63), of(1 << 40), named(api.PRate, "x", x), named(api.PRest, "c"), of(api.PRate, chain(61)), of(0, sum(x, 3000))}},
		{api.ErrLimit, []api.Node{chain(61), sum(x, 2001), of(api.FTrue, chain(60)), of(api.PSeq, slices.Repeat([]api.Node{{}}, 4000)...), of(api.FNot, of(api.FEq, chain(59), chain(1)))}},
		{api.ErrForm, []api.Node{v(""), v("1"), v("true"), v("abcdefghijklm"), named(api.TNum, "x"), of(api.TNum), of(api.TNeg), of(api.TNeg, of(api.FTrue)), of(api.TAdd, x), of(api.TAdd, x, x, x), of(api.TAdd, x, of(77)), of(api.TDiv, x, x), of(api.TDiv, x, num(0)), of(api.TPow, x, num(21)), of(api.TNeg, num(-1)), named(api.TFun, "f", x, x), named(api.TAny, "f", x), of(api.TDiff, of(api.TDiff, x)), of(api.TDot, x),
			of(api.FEq, x), of(api.FNot), named(api.FTrue, "x"), of(api.FAll, of(api.FTrue)), of(api.FDiff, of(api.FNot, of(api.FTrue))), of(api.FBox, of(api.FTrue), of(api.FTrue)), named(api.FPred, "p", x, x), named(api.FAny, "P", x),
			of(api.PFlow), of(api.PFlow, of(api.FTrue)), of(api.PFlow, named(api.PRate, "x", x)), of(api.PFlow, named(api.PRest, "c"), named(api.PRest, "d"), of(api.FTrue)), of(api.PLoop, named(api.PRest, "c")), of(api.PSeq, named(api.PSys, "a")), named(api.PChoose, "x", x), of(api.PTest, x)}},
	} {
		for _, n := range c.trees {
			if got, e := text.Print(n); got != "" || e != c.want {
				t.Errorf("%.200v is printed as %.100q, %d, not %d", n, got, e, c.want)
			}
		}
	}
}

// TestPrintLarge: the largest trees, the longest names and numbers; a text may be longer than MaxText.
func TestPrintLarge(t *testing.T) {
	long := strings.Repeat("9", 192)
	for _, c := range []struct {
		n    api.Node
		want int
	}{
		{sum(v("x"), 2000), 2000 + 5*1999}, {sum(v("abcdefghijkl"), 2000), 12*2000 + 5*1999}, {sum(digits(t, long), 2000), 192*2000 + 5*1999}, {chain(60), 1 + 3*59},
	} {
		if got, e := text.Print(c.n); len(got) != c.want || e != api.OK {
			t.Errorf("the text has %d bytes, %d, not %d", len(got), e, c.want)
		}
	}
	var equations []api.Node
	for i := range 1999 {
		equations = append(equations, named(api.PRate, "v"+string([]byte{'a' + byte(i/676), 'a' + byte(i/26%26), 'a' + byte(i%26)}), num(0)))
	}
	flow := of(api.PFlow, append(equations, of(api.FFalse))...)
	got, e := text.Print(flow)
	if e != api.OK || !strings.HasPrefix(got, "{vaaa' = 0, vaab' = 0, ") || !strings.HasSuffix(got, " = 0 & false}") {
		t.Errorf("a long flow is %.100q, %d", got, e)
	}
	checkParse(t, got, program, flow)
}

// TestCleanLimit: the errors of Parse are checked beside those of Parse itself; the other one is that of what is printed.
func TestCleanLimit(t *testing.T) {
	dense := func(last int) string {
		n := of(api.TAdd, sum(digits(t, strings.Repeat("7", 192)), 304), digits(t, strings.Repeat("7", last)))
		printed, e := text.Print(n)
		if e != api.OK || len(printed) != api.MaxText-112+last {
			t.Fatalf("the sum has %d bytes, %d", len(printed), e)
		}
		return strings.ReplaceAll(printed, " + ", "+")
	}
	longest, e := text.Clean(dense(112), term)
	if len(longest) != api.MaxText || e != api.OK {
		t.Errorf("a text of %d bytes is %d", len(longest), e)
	}
	checkClean(t, term, [][2]string{{longest, longest}})
	if got, e := text.Clean(dense(113), term); got != "" || e != api.ErrLimit {
		t.Errorf("a text that is too long is %.100q, %d", got, e)
	}
}
