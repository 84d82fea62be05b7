package text

import "strings"

// The kinds of tokens. A byte that begins no token is a token of kind illegal, since it is an error only where it is needed.
const (
	end = iota
	illegal
	word
	number
	sign
)

// token is a token at an offset of a text. Its text is empty for the kinds end and illegal, so that no sign or word is equal to it.
type token struct {
	kind int
	text string
	at   int
}

// after returns the offset behind a token.
func (t token) after() int {
	return t.at + len(t.text)
}

// longSigns are the signs of more than one byte. None of them begins with another one, so that at most one fits.
var longSigns = [...]string{"<->", "<|", "|>", "<=", ">=", "!=", "->", ":=", "++", ".."}

const shortSigns = "()[]{}+-*/^'=<>!&|,;?@_."

// scan returns the first token of a text from an offset on.
func scan(s string, from int) token {
	at := skipBlanks(s, from)
	if at == len(s) {
		return token{kind: end, at: at}
	}
	switch c := s[at]; {
	case isLetter(c):
		return token{word, s[at:runEnd(s, at, isLetterOrDigit)], at}
	case isDigit(c):
		return token{number, s[at:runEnd(s, at, isDigit)], at}
	}
	if found := signAt(s, at); found != "" {
		return token{sign, found, at}
	}
	return token{kind: illegal, at: at}
}

// skipBlanks returns the offset behind the blanks and comments from an offset on.
func skipBlanks(s string, at int) int {
	for at < len(s) {
		switch s[at] {
		case ' ', '\t', '\n':
			at++
		case '#':
			at = lineEnd(s, at)
		default:
			return at
		}
	}
	return at
}

// lineEnd returns the offset of the next line feed, or of the end of the text.
func lineEnd(s string, at int) int {
	length := strings.IndexByte(s[at:], '\n')
	if length < 0 {
		return len(s)
	}
	return at + length
}

// runEnd returns the offset behind the bytes of a class that follow each other from an offset on.
func runEnd(s string, at int, isMember func(c byte) bool) int {
	for at < len(s) && isMember(s[at]) {
		at++
	}
	return at
}

func isLetter(c byte) bool {
	return c >= 'a' && c <= 'z' || c >= 'A' && c <= 'Z'
}

func isDigit(c byte) bool {
	return c >= '0' && c <= '9'
}

func isLetterOrDigit(c byte) bool {
	return isLetter(c) || isDigit(c)
}

// signAt returns the longest sign at an offset, an empty text if there is none.
func signAt(s string, at int) string {
	for _, long := range longSigns {
		if strings.HasPrefix(s[at:], long) {
			return long
		}
	}
	if strings.IndexByte(shortSigns, s[at]) >= 0 {
		return s[at : at+1]
	}
	return ""
}

// closing returns the offset of the bracket that closes the one at an offset, -1 if there is none. All bytes but brackets and comments are passed over.
func closing(s string, at int) int {
	var due []byte
	for ; at < len(s); at++ {
		switch c := s[at]; c {
		case '#':
			at = lineEnd(s, at)
		case '(':
			due = append(due, ')')
		case '[':
			due = append(due, ']')
		case '{':
			due = append(due, '}')
		case ')', ']', '}':
			last := len(due) - 1
			if due[last] != c {
				return -1
			}
			due = due[:last]
			if last == 0 {
				return at
			}
		}
	}
	return -1
}
