package parse

import (
	"muffle/api"
	"muffle/pretty"
)

// onlyExpr reads all of a text.
func (p *parser) onlyExpr() api.Expr {
	e := p.expr()
	p.wantEnd()
	return e
}

// isExpr tells whether the token at hand begins an expression.
func (p *parser) isExpr() bool {
	kind := p.here().Kind
	return kind == api.TokenName || kind == api.TokenNumber || p.is("~") || p.is("-") || p.is("(") || p.is("pick")
}

func (p *parser) expr() api.Expr {
	p.begin(p.isExpr())
	defer p.done()
	switch {
	case p.here().Kind == api.TokenNumber:
		return api.Expr{Op: api.OpConst, Word: p.number()}
	case p.isNameAheadOf("["):
		return p.index()
	case p.take("~"):
		return exprOf(api.OpNot, p.expr())
	case p.take("-"):
		return exprOf(api.OpNeg, p.expr())
	case p.take("("):
		return p.two()
	case p.take("pick"):
		return p.pick()
	}
	return api.Expr{Op: api.OpVar, Name: p.name()}
}

func exprOf(op api.Op, args ...api.Expr) api.Expr {
	return api.Expr{Op: op, Args: args}
}

func (p *parser) index() api.Expr {
	e := api.Expr{Op: api.OpIndex, Name: p.name()}
	e.Args = []api.Expr{p.place()}
	return e
}

// place reads what stands in brackets.
func (p *parser) place() api.Expr {
	p.want("[")
	e := p.expr()
	p.want("]")
	return e
}

// two reads an operation of two arguments, from behind its parenthesis on.
func (p *parser) two() api.Expr {
	a := p.expr()
	op := p.sign()
	b := p.expr()
	p.want(")")
	return exprOf(op, a, b)
}

func (p *parser) sign() api.Op {
	op, is := pretty.Op(p.here().Text)
	if !is {
		panic(p.wrong(api.ErrSyntax))
	}
	p.at++
	return op
}

// pick reads the three arguments behind the own word: of a list that is shorter or longer the first token too few or too many is wrong.
func (p *parser) pick() api.Expr {
	p.want("(")
	asked := p.expr()
	p.want(",")
	first := p.expr()
	p.want(",")
	second := p.expr()
	p.want(")")
	return exprOf(api.OpPick, asked, first, second)
}
