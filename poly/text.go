package poly

import (
	"strconv"
	"strings"

	"isochrone/api"
	"isochrone/rat"
)

// Text returns the terms of p in their order, or "0" if there is none.
func Text(p api.Poly) (string, api.Errno) {
	if !Valid(p) {
		return "", api.ErrForm
	}
	if len(p.Terms) == 0 {
		return "0", api.OK
	}
	var text strings.Builder
	for i, m := range p.Terms {
		if i > 0 {
			text.WriteString(" + ")
		}
		coef, _ := rat.Text(m.Coef)
		text.WriteString(coef)
		text.WriteString(factors(m.Exps))
	}
	return text.String(), api.OK
}

// factors returns the text of the powers of variables in a term.
func factors(exps []int) string {
	text := ""
	for i, k := range exps {
		switch {
		case k == 1:
			text += "*x" + strconv.Itoa(i)
		case k > 1:
			text += "*x" + strconv.Itoa(i) + "^" + strconv.Itoa(k)
		}
	}
	return text
}
