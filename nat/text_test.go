package nat_test

import (
	"math/big"
	"strings"
	"testing"

	"isochrone/api"
	"isochrone/nat"
)

func TestText(t *testing.T) {
	for _, c := range []struct {
		a    []uint32
		want string
	}{
		{nil, "0"}, {[]uint32{}, "0"}, {[]uint32{7}, "7"}, {[]uint32{999999999}, "999999999"}, {[]uint32{1000000000}, "1000000000"}, {[]uint32{1000000001}, "1000000001"},
		{ones(1), "4294967295"}, {[]uint32{0, 1}, "4294967296"}, {[]uint32{0xa7640007, 0xde0b6b3}, "1000000000000000007"}, {ones(4096), toBig(ones(4096)).String()},
	} {
		if got, e := nat.Text(c.a); got != c.want || e != api.OK {
			t.Errorf("Text(%s) is %q, %d", brief(c.a), got, e)
		}
	}
	if got, e := nat.Text([]uint32{1, 0}); got != "" || e != api.ErrForm {
		t.Errorf("Text of no magnitude is %q, %d", got, e)
	}
}

func TestParse(t *testing.T) {
	for _, c := range []struct {
		s    string
		want []uint32
		e    api.Errno
	}{
		{"0", nil, api.OK}, {"000", nil, api.OK}, {"7", []uint32{7}, api.OK}, {"000123", []uint32{123}, api.OK}, {"999999999", []uint32{999999999}, api.OK},
		{"1000000000", []uint32{1000000000}, api.OK}, {"0000000000000000000000000001", []uint32{1}, api.OK}, {"4294967296", []uint32{0, 1}, api.OK},
		{"18446744073709551616", []uint32{0, 0, 1}, api.OK}, {"18446744073709551615", ones(2), api.OK},
		{"", nil, api.ErrSyntax}, {"a", nil, api.ErrSyntax}, {"12a", nil, api.ErrSyntax}, {"a12", nil, api.ErrSyntax}, {"1 2", nil, api.ErrSyntax}, {" 1", nil, api.ErrSyntax},
		{"1 ", nil, api.ErrSyntax}, {"1\n", nil, api.ErrSyntax}, {"+1", nil, api.ErrSyntax}, {"-1", nil, api.ErrSyntax}, {"-0", nil, api.ErrSyntax}, {"1_000", nil, api.ErrSyntax},
		{"0x1", nil, api.ErrSyntax}, {"1.0", nil, api.ErrSyntax}, {"1e3", nil, api.ErrSyntax}, {"/", nil, api.ErrSyntax}, {":", nil, api.ErrSyntax}, {"\x00", nil, api.ErrSyntax},
		{"\xff", nil, api.ErrSyntax}, {"1\xb2", nil, api.ErrSyntax}, {"\u0661", nil, api.ErrSyntax}, {"123456789012345678x", nil, api.ErrSyntax}, {"12345678x", nil, api.ErrSyntax},
		{strings.Repeat("0", 20000), nil, api.OK}, {strings.Repeat("0", 19999) + "5", []uint32{5}, api.OK},
		{strings.Repeat("0", 20001), nil, api.ErrLimit}, {strings.Repeat("x", 20001), nil, api.ErrLimit}, {strings.Repeat("9", 100000), nil, api.ErrLimit},
		{strings.Repeat("x", 20000), nil, api.ErrSyntax}, {strings.Repeat("1", 19999) + "x", nil, api.ErrSyntax},
	} {
		got, e := nat.Parse(c.s)
		same(t, "Parse of "+c.s[:min(len(c.s), 30)], got, e, c.want, c.e)
	}
}

func TestParseLongest(t *testing.T) {
	s := strings.Repeat("9", 20000)
	want, _ := new(big.Int).SetString(s, 10)
	got, e := nat.Parse(s)
	same(t, "Parse of 20000 digits", got, e, fromBig(want), api.OK)
	if text, e := nat.Text(got); text != s || e != api.OK {
		t.Errorf("Text of 20000 digits is another text, with error %d", e)
	}
}

func TestTextAgainstBig(t *testing.T) {
	src := source(5)
	for range 2000 {
		a := src.magnitude(src.upTo(30))
		want := toBig(a).String()
		if got, e := nat.Text(a); got != want || e != api.OK {
			t.Errorf("Text(%s) is %q, %d", brief(a), got, e)
		}
		got, e := nat.Parse(strings.Repeat("0", src.upTo(20)) + want)
		same(t, "Parse", got, e, a, api.OK)
	}
}
