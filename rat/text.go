package rat

import (
	"strings"

	"isochrone/api"
	"isochrone/nat"
)

// maxText is the length of the longest text that Parse reads; the numbers of such a text need fewer than MaxWords words.
const maxText = 20000

// Text returns the sign, the numerator and, if it is not 1, the denominator of a in decimal digits.
func Text(a api.Rat) (string, api.Errno) {
	if !Valid(a) {
		return "", api.ErrForm
	}
	text, _ := nat.Text(a.Num)
	if a.Neg {
		text = "-" + text
	}
	if !isOne(a.Den) {
		den, _ := nat.Text(a.Den)
		text += "/" + den
	}
	return text, api.OK
}

// Parse reads an integer, a quotient of integers or a decimal number.
func Parse(s string) (api.Rat, api.Errno) {
	if len(s) > maxText {
		return api.Rat{}, api.ErrLimit
	}
	size, neg := strings.CutPrefix(s, "-")
	num, den, e := parts(size)
	if e != api.OK {
		return api.Rat{}, e
	}
	return Make(neg, num, den)
}

// parts reads a text without a sign.
func parts(s string) (num, den []uint32, e api.Errno) {
	if above, below, found := strings.Cut(s, "/"); found {
		num, e = nat.Parse(above)
		if e != api.OK {
			return nil, nil, e
		}
		den, e = nat.Parse(below)
		return num, den, e
	}
	whole, places, found := strings.Cut(s, ".")
	if found && (whole == "" || places == "") {
		return nil, nil, api.ErrSyntax
	}
	num, e = nat.Parse(whole + places)
	if e != api.OK {
		return nil, nil, e
	}
	den, e = nat.Pow(nat.From(10), len(places))
	return num, den, e
}
