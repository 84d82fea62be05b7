package rat_test

import (
	"math/big"
	"strings"
	"testing"

	"isochrone/api"
	"isochrone/rat"
)

func TestText(t *testing.T) {
	for _, s := range []string{"0", "7", "-7", "1/2", "-1/2", "22/7", "-355/113", "1000000000/999999999", "18446744073709551616", "-1/18446744073709551616", "100000000000000000000000000000000000001/3"} {
		if got, e := rat.Text(number(s)); got != s || e != api.OK {
			t.Errorf("Text of %s is %q, %d", s, got, e)
		}
	}
	longest := new(big.Rat).SetFrac(power(maxBits, -1), power(maxBits-1, 0))
	if got, e := rat.Text(fromBigRat(longest)); got != longest.RatString() || e != api.OK {
		t.Errorf("Text of the longest number has %d bytes, %d", len(got), e)
	}
	for _, a := range invalid() {
		if got, e := rat.Text(a); got != "" || e != api.ErrForm {
			t.Errorf("Text of an invalid number is %q, %d", got, e)
		}
	}
}

func TestParse(t *testing.T) {
	for _, c := range [][2]string{
		{"0", "0"}, {"-0", "0"}, {"00", "0"}, {"-0/7", "0"}, {"0/7", "0"}, {"0.0", "0"}, {"-0.000", "0"}, {"7", "7"}, {"-7", "-7"}, {"007", "7"}, {"-007", "-7"}, {"6/4", "3/2"}, {"-6/4", "-3/2"}, {"4/6", "2/3"},
		{"06/004", "3/2"}, {"8/4", "2"}, {"1.25", "5/4"}, {"-1.25", "-5/4"}, {"0.5", "1/2"}, {"01.50", "3/2"}, {"1.0", "1"}, {"0.001", "1/1000"}, {"-0.001", "-1/1000"}, {"10.10", "101/10"},
		{"18446744073709551616/4294967296", "4294967296"}, {"0.18446744073709551616", "18446744073709551616/100000000000000000000"}, {"1000000000.000000001", "1000000000000000001/1000000000"},
	} {
		got, e := rat.Parse(c[0])
		same(t, "Parse of "+c[0], got, e, number(c[1]), api.OK)
	}
}

func TestParseErrors(t *testing.T) {
	for _, c := range []struct {
		s string
		e api.Errno
	}{
		{"", api.ErrSyntax}, {"-", api.ErrSyntax}, {"+", api.ErrSyntax}, {"+1", api.ErrSyntax}, {"--1", api.ErrSyntax}, {"-+1", api.ErrSyntax}, {"1-", api.ErrSyntax}, {"1-2", api.ErrSyntax}, {".5", api.ErrSyntax}, {"-.5", api.ErrSyntax},
		{"5.", api.ErrSyntax}, {"-5.", api.ErrSyntax}, {".", api.ErrSyntax}, {"-.", api.ErrSyntax}, {"/", api.ErrSyntax}, {"-/", api.ErrSyntax}, {"1/", api.ErrSyntax}, {"/2", api.ErrSyntax}, {"-/2", api.ErrSyntax}, {"0/", api.ErrSyntax},
		{"1/-2", api.ErrSyntax}, {"1/+2", api.ErrSyntax}, {"1/-0", api.ErrSyntax}, {"1.-2", api.ErrSyntax}, {"1.+2", api.ErrSyntax}, {"-1/-2", api.ErrSyntax}, {"1/2/3", api.ErrSyntax}, {"1//2", api.ErrSyntax}, {"1/2/", api.ErrSyntax},
		{"1.2.3", api.ErrSyntax}, {"1..2", api.ErrSyntax}, {"1.2.", api.ErrSyntax}, {"1.2/3", api.ErrSyntax}, {"1/2.3", api.ErrSyntax}, {"1/.5", api.ErrSyntax}, {"1/5.", api.ErrSyntax}, {"1./2", api.ErrSyntax}, {".1/2", api.ErrSyntax},
		{" 1", api.ErrSyntax}, {"1 ", api.ErrSyntax}, {"1 /2", api.ErrSyntax}, {"1/ 2", api.ErrSyntax}, {"- 1", api.ErrSyntax}, {"1\n", api.ErrSyntax}, {"1,5", api.ErrSyntax}, {"1e3", api.ErrSyntax}, {"1.5e3", api.ErrSyntax}, {"0x1", api.ErrSyntax},
		{"1_000", api.ErrSyntax}, {"x", api.ErrSyntax}, {"1/x", api.ErrSyntax}, {"x/1", api.ErrSyntax}, {"1.x", api.ErrSyntax}, {"NaN", api.ErrSyntax}, {"Inf", api.ErrSyntax}, {"\x00", api.ErrSyntax}, {"\xff", api.ErrSyntax}, {"1/\xff", api.ErrSyntax}, {"\u0661", api.ErrSyntax}, {"\u22121", api.ErrSyntax},
		{"1/0", api.ErrZero}, {"1/00", api.ErrZero}, {"-1/000", api.ErrZero}, {"0/0", api.ErrZero}, {"-0/0", api.ErrZero}, {"x/0", api.ErrSyntax}, {"/0", api.ErrSyntax}, {"1/0x", api.ErrSyntax}, {"1/0/0", api.ErrSyntax}, {"1.5/0", api.ErrSyntax}, {"1/0.0", api.ErrSyntax}, {"+1/0", api.ErrSyntax},
	} {
		got, e := rat.Parse(c.s)
		same(t, "Parse of "+c.s, got, e, api.Rat{}, c.e)
	}
}

func TestParseLength(t *testing.T) {
	zeros := strings.Repeat("0", 20000)
	for _, c := range []struct {
		s    string
		want string
		e    api.Errno
	}{
		{zeros, "0", api.OK}, {"-" + zeros[1:], "0", api.OK}, {zeros[1:] + "5", "5", api.OK}, {"1/" + zeros[3:] + "5", "1/5", api.OK}, {"1." + zeros[2:], "1", api.OK}, {"1/" + zeros[2:], "", api.ErrZero}, {zeros[1:] + "x", "", api.ErrSyntax}, {zeros[1:] + ".", "", api.ErrSyntax},
		{zeros + "0", "", api.ErrLimit}, {"-" + zeros, "", api.ErrLimit}, {zeros + "x", "", api.ErrLimit}, {"+" + zeros, "", api.ErrLimit}, {"1/" + zeros, "", api.ErrLimit}, {"1." + zeros, "", api.ErrLimit}, {strings.Repeat(zeros, 5), "", api.ErrLimit},
	} {
		want := api.Rat{}
		if c.e == api.OK {
			want = number(c.want)
		}
		got, e := rat.Parse(c.s)
		same(t, "Parse of "+c.s[:2]+".. of many bytes", got, e, want, c.e)
	}
}

func TestParseLongest(t *testing.T) {
	nines := strings.Repeat("9", 20000)
	for _, s := range []string{nines, "-" + nines[1:], nines[:9999] + "/1" + nines[:9999], "1/" + nines[2:], "0." + nines[2:], "-" + nines[:10000] + "." + nines[:9998], nines[:19998] + ".7"} {
		got, e := rat.Parse(s)
		same(t, "Parse of "+s[:3]+".. of 20000 bytes", got, e, number(s), api.OK)
	}
}

func TestParseAndTextAgainstBig(t *testing.T) {
	s := source(9)
	for range 2000 {
		for _, a := range []*big.Rat{s.small(), s.number(5)} {
			want := a.RatString()
			got, e := rat.Text(fromBigRat(a))
			if got != want || e != api.OK {
				t.Errorf("Text of %s is %s, %d", want, got, e)
			}
			back, e := rat.Parse(want)
			same(t, "Parse of "+want, back, e, fromBigRat(a), api.OK)
		}
		decimal := s.words(s.upTo(3)).String() + "." + strings.Repeat("0", s.upTo(9)) + s.words(s.upTo(3)).String()
		got, e := rat.Parse("-" + decimal)
		same(t, "Parse of "+decimal, got, e, number("-"+decimal), api.OK)
	}
}
