package linear

import (
	"strconv"
	"strings"

	"isochrone/api"
	"isochrone/rat"
)

// Text returns the terms of a line, its relation and its constant: ErrForm if it is not a valid system of one line.
func Text(n int, line api.Line) (string, api.Errno) {
	if e := Check(n, []api.Line{line}); e != api.OK {
		return "", e
	}
	var terms []string
	for i, c := range line.Coefs {
		if len(c.Num) > 0 {
			terms = append(terms, number(c)+"*x"+strconv.Itoa(i))
		}
	}
	if len(terms) == 0 {
		terms = []string{"0"}
	}
	relation := [...]string{equal: " = ", atMost: " <= ", less: " < "}[line.Rel]
	return strings.Join(terms, " + ") + relation + number(line.Const), api.OK
}

// number returns the text of a valid number.
func number(x api.Rat) string {
	text, _ := rat.Text(x)
	return text
}
