package text

import (
	"isochrone/api"
	"isochrone/rat"
)

func (p *parser) term() api.Node {
	return p.leftward(p.product, api.TAdd, api.TSub)
}

func (p *parser) product() api.Node {
	return p.leftward(p.factor, api.TMul, api.TDiv)
}

func (p *parser) factor() api.Node {
	if p.sees("-") {
		return of(api.TNeg, p.behind("-", p.factor))
	}
	base := p.primary()
	if !p.takes("^") {
		return base
	}
	exponent := p.number()
	return of(api.TPow, base, exponent)
}

func (p *parser) primary() api.Node {
	switch {
	case p.next.kind == number:
		return p.number()
	case p.next.kind == word:
		return p.variable()
	case p.sees("("):
		inner := p.between("(", p.term, ")")
		if p.takes("'") {
			return of(api.TDiff, inner)
		}
		return inner
	case p.takes("_"):
		return of(api.TDot)
	}
	panic(p.unexpected())
}

// number reads a number. It may have more words than tree.Check allows.
func (p *parser) number() api.Node {
	if p.next.kind != number || len(p.next.text) > maxDigits {
		panic(p.unexpected())
	}
	value, _ := rat.Parse(p.next.text)
	p.advance()
	return api.Node{Op: api.TNum, Num: value}
}

// variable reads a variable or a symbol.
func (p *parser) variable() api.Node {
	if opensArguments(p.second()) {
		return p.symbol(api.TFun, api.TAny)
	}
	name := p.name()
	if p.takes("'") {
		return named(api.TPrime, name)
	}
	return named(api.TVar, name)
}

// opensArguments reports whether a token behind a name makes it a symbol.
func opensArguments(t token) bool {
	return t.text == "(" || t.text == "{"
}
