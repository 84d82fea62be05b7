package text

import "isochrone/api"

func (p *parser) program() api.Node {
	return p.leftward(p.sequence, api.PAlt)
}

func (p *parser) sequence() api.Node {
	return p.leftward(p.step, api.PSeq)
}

func (p *parser) step() api.Node {
	switch {
	case p.next.kind == word:
		return p.action()
	case p.takes("?"):
		return of(api.PTest, p.formula())
	case p.sees("{") && p.beginsFlow():
		return p.between("{", p.flow, "}")
	case p.sees("{"):
		return p.block()
	}
	panic(p.unexpected())
}

// action reads a step that begins with a name.
func (p *parser) action() api.Node {
	name := p.name()
	switch {
	case p.takes(":="):
		if p.takes("*") {
			return named(api.PChoose, name)
		}
		return named(api.PAssign, name, p.term())
	case p.takes("'"):
		p.need(":=")
		return named(api.PPrime, name, p.term())
	case p.takes("!"):
		return named(api.PGame, name)
	}
	return named(api.PSys, name)
}

func (p *parser) block() api.Node {
	inner := p.between("{", p.program, "}")
	switch {
	case p.takes("*"):
		return of(api.PLoop, inner)
	case p.takes("@"):
		return of(api.PDual, inner)
	}
	return inner
}

// beginsFlow reports whether the brace that is the next token begins a differential equation.
func (p *parser) beginsFlow() bool {
	name := p.second()
	if name.kind != word {
		return false
	}
	first := scan(p.text, name.after())
	if first.text != "'" {
		return first.text == ".."
	}
	return scan(p.text, first.after()).text == "="
}

// flow reads a differential equation between its braces.
func (p *parser) flow() api.Node {
	kids := []api.Node{p.equation()}
	for p.takes(",") {
		kids = append(kids, p.equation())
	}
	p.need("&")
	kids = append(kids, p.formula())
	return of(api.PFlow, kids...)
}

func (p *parser) equation() api.Node {
	name := p.name()
	if p.takes("..") {
		return named(api.PRest, name)
	}
	p.need("'")
	p.need("=")
	return named(api.PRate, name, p.term())
}
