package text

import (
	"strings"

	"isochrone/api"
)

const (
	// maxOpen is how many brackets, prefix operators and arrows may be open at once. It also bounds the parser's recursion.
	maxOpen = 200
	// maxDigits is the length of the longest number.
	maxDigits = 200
)

// parser reads a text token by token. Its methods leave by a panic with a failure where the text does not follow the grammar.
type parser struct {
	text string
	next token
	open int
}

// failure is what the parser panics with.
type failure struct {
	at int
	e  api.Errno
}

// read reads a whole text as a tree of a sort. The tree may have names, numbers and places of operators that are not allowed.
func read(s string, sort int) (n api.Node, at int, e api.Errno) {
	defer func() {
		if f, failed := recover().(failure); failed {
			n, at, e = api.Node{}, f.at, f.e
		}
	}()
	p := &parser{text: s, next: scan(s, 0)}
	n = p.tree(sort)
	if p.next.kind != end {
		panic(p.unexpected())
	}
	return n, 0, api.OK
}

func (p *parser) tree(sort int) api.Node {
	switch sort {
	case term:
		return p.term()
	case formula:
		return p.formula()
	default:
		return p.program()
	}
}

// unexpected returns the failure that the next token cannot follow.
func (p *parser) unexpected() failure {
	return failure{p.next.at, api.ErrSyntax}
}

func (p *parser) advance() {
	p.next = scan(p.text, p.next.after())
}

// second returns the token behind the next one.
func (p *parser) second() token {
	return scan(p.text, p.next.after())
}

func (p *parser) sees(text string) bool {
	return p.next.text == text
}

// takes passes over a sign if it is the next token, and reports whether it is.
func (p *parser) takes(sign string) bool {
	if !p.sees(sign) {
		return false
	}
	p.advance()
	return true
}

// need passes over a sign that must be the next token.
func (p *parser) need(sign string) {
	if !p.takes(sign) {
		panic(p.unexpected())
	}
}

// enter passes over a sign or a word that is open until leave is called.
func (p *parser) enter(text string) {
	p.need(text)
	p.open++
	if p.open > maxOpen {
		panic(failure{0, api.ErrLimit})
	}
}

func (p *parser) leave() {
	p.open--
}

// behind reads what stands behind a sign that is open until then.
func (p *parser) behind(sign string, part func() api.Node) api.Node {
	p.enter(sign)
	n := part()
	p.leave()
	return n
}

// between reads what stands between two brackets.
func (p *parser) between(opening string, part func() api.Node, until string) api.Node {
	p.enter(opening)
	n := part()
	p.need(until)
	p.leave()
	return n
}

// joined returns that one of some operators whose sign is the next token, 0 if there is none.
func (p *parser) joined(ops []int) int {
	for _, op := range ops {
		if p.sees(signOf(op)) {
			return op
		}
	}
	return 0
}

// leftward reads parts joined by some operators, left-associative.
func (p *parser) leftward(part func() api.Node, ops ...int) api.Node {
	n := part()
	for {
		op := p.joined(ops)
		if op == 0 {
			return n
		}
		p.advance()
		right := part()
		n = of(op, n, right)
	}
}

// rightward reads a part and, if an operator's sign follows, the rest behind it.
func (p *parser) rightward(part func() api.Node, op int, rest func() api.Node) api.Node {
	left := part()
	if !p.sees(signOf(op)) {
		return left
	}
	right := p.behind(signOf(op), rest)
	return of(op, left, right)
}

// name reads a name. It may be a word or a length that tree.Check refuses.
func (p *parser) name() string {
	if p.next.kind != word {
		panic(p.unexpected())
	}
	// A part of the text would keep all of it in memory.
	name := strings.Clone(p.next.text)
	p.advance()
	return name
}

// symbol reads a name and what stands in brackets behind it, as one of two operators: with an argument or none, or with all variables.
func (p *parser) symbol(plain, all int) api.Node {
	n := named(plain, p.name())
	if p.sees("{") {
		n.Op = all
		p.enter("{")
		p.need("}")
		p.leave()
		return n
	}
	p.enter("(")
	if !p.sees(")") {
		n.Kids = []api.Node{p.term()}
	}
	p.need(")")
	p.leave()
	return n
}

// of returns a node without a name.
func of(op int, kids ...api.Node) api.Node {
	return named(op, "", kids...)
}

// named returns a node with a name.
func named(op int, name string, kids ...api.Node) api.Node {
	return api.Node{Op: op, Name: name, Kids: kids}
}
