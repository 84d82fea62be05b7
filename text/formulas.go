package text

import "isochrone/api"

func (p *parser) formula() api.Node {
	return p.rightward(p.implied, api.FIff, p.formula)
}

func (p *parser) implied() api.Node {
	return p.rightward(p.either, api.FImp, p.implied)
}

func (p *parser) either() api.Node {
	return p.leftward(p.both, api.FOr)
}

func (p *parser) both() api.Node {
	return p.leftward(p.prefix, api.FAnd)
}

func (p *parser) prefix() api.Node {
	switch p.next.text {
	case "!":
		return of(api.FNot, p.behind("!", p.prefix))
	case "forall":
		return p.quantifier(api.FAll)
	case "exists":
		return p.quantifier(api.FEx)
	case "[":
		return p.modality(api.FBox, "]")
	case "<|":
		return p.modality(api.FDia, "|>")
	}
	return p.atom()
}

func (p *parser) quantifier(op int) api.Node {
	p.enter(p.next.text)
	name := p.name()
	p.need(".")
	kid := p.prefix()
	p.leave()
	return named(op, name, kid)
}

// modality reads a box or a diamond. One thing is open all the time: first the bracket, then the prefix operator that it has become.
func (p *parser) modality(op int, until string) api.Node {
	p.enter(p.next.text)
	inner := p.program()
	p.need(until)
	kid := p.prefix()
	p.leave()
	return of(op, inner, kid)
}

func (p *parser) atom() api.Node {
	switch {
	case p.takes("true"):
		return of(api.FTrue)
	case p.takes("false"):
		return of(api.FFalse)
	case p.takes("@"):
		return of(api.FDiff, p.between("(", p.formula, ")"))
	case p.sees("(") && !p.isTerm(p.next):
		return p.between("(", p.formula, ")")
	case p.next.kind == word:
		bracket := p.second()
		if opensArguments(bracket) && !p.isTerm(bracket) {
			return p.symbol(api.FPred, api.FAny)
		}
	}
	return p.comparison()
}

// isTerm reports whether the brackets from an opening one on end a term, since a sign that only a term has on its left stands behind them. The token there is not needed otherwise, so that an illegal one is no error yet.
func (p *parser) isTerm(bracket token) bool {
	at := closing(p.text, bracket.at)
	if at < 0 {
		panic(failure{bracket.at, api.ErrSyntax})
	}
	switch scan(p.text, at+1).text {
	case "'", "+", "-", "*", "/", "^", "=", "!=", "<", "<=", ">", ">=":
		return true
	}
	return false
}

func (p *parser) comparison() api.Node {
	left := p.term()
	op := p.joined([]int{api.FEq, api.FNe, api.FLt, api.FLe, api.FGt, api.FGe})
	if op == 0 {
		panic(p.unexpected())
	}
	p.advance()
	right := p.term()
	return of(op, left, right)
}
