package linear_test

import (
	"strings"
	"testing"

	"isochrone/api"
	"isochrone/linear"
)

func TestText(t *testing.T) {
	cases := []struct {
		line api.Line
		want string
	}{
		{line("1 <= 3"), "1*x0 <= 3"}, {line("-1/2 = 2/3"), "-1/2*x0 = 2/3"}, {line("7 < -5/4"), "7*x0 < -5/4"},
		{line("1 0 -1/2 <= 0"), "1*x0 + -1/2*x2 <= 0"}, {line("0 3 0 = -1"), "3*x1 = -1"}, {line("2 -3 5/7 < 11"), "2*x0 + -3*x1 + 5/7*x2 < 11"},
		{line("1 2 3 4 5 6 7 8 <= 9"), "1*x0 + 2*x1 + 3*x2 + 4*x3 + 5*x4 + 6*x5 + 7*x6 + 8*x7 <= 9"}, {line("0 0 0 0 0 0 0 -1 < 0"), "-1*x7 < 0"},
		// No term.
		{line("0 0 0 <= 1"), "0 <= 1"}, {line("0 = 0"), "0 = 0"}, {line("0 0 < -2/9"), "0 < -2/9"}, {line("= 5"), "0 = 5"}, {line("<= 0"), "0 <= 0"}, {line("< 1/3"), "0 < 1/3"},
	}
	for _, c := range cases {
		got, e := linear.Text(len(c.line.Coefs), c.line)
		if got != c.want || e != api.OK {
			t.Errorf("Text of %s is %q, %d, not %q", briefLines([]api.Line{c.line}), got, e, c.want)
		}
	}
	great := strings.Repeat("9", 192)
	if got, e := linear.Text(1, line(great+" <= "+great+"/4")); got != great+"*x0 <= "+great+"/4" || e != api.OK {
		t.Errorf("Text of a long line is %q, %d", got, e)
	}
}

// TestTextErrForm: a line is checked as a system of one line.
func TestTextErrForm(t *testing.T) {
	for name, s := range invalidSystems() {
		for _, l := range s.lines[:min(2, len(s.lines))] {
			want := linear.Check(s.n, []api.Line{l})
			got, e := linear.Text(s.n, l)
			if e != want || (e == api.OK) != (got != "") {
				t.Errorf("Text of a line of %s is %q, %d", name, got, e)
			}
		}
	}
	for _, n := range []int{-1, 0, 2, 9} {
		if got, e := linear.Text(n, line("1 <= 1")); got != "" || e != api.ErrForm {
			t.Errorf("Text of a line in %d variables is %q, %d", n, got, e)
		}
	}
	if got, e := linear.Text(9, line(zeros(9)+"<= 1")); got != "" || e != api.ErrForm {
		t.Errorf("Text of a line in 9 variables is %q, %d", got, e)
	}
}
