package parse

import "muffle/api"

// onlyStmts reads all of a text.
func (p *parser) onlyStmts() []api.Stmt {
	return allAhead(p, end, p.stmt)
}

func (p *parser) block() []api.Stmt {
	p.want("{")
	return p.bodyEnd()
}

// bodyEnd reads statements, and the brace behind them.
func (p *parser) bodyEnd() []api.Stmt {
	l := allAhead(p, "}", p.stmt)
	p.want("}")
	return l
}

// isStmt tells whether the token at hand begins a statement.
func (p *parser) isStmt() bool {
	return p.here().Kind == api.TokenName || p.is("if") || p.is("while") || p.is("for")
}

func (p *parser) stmt() api.Stmt {
	p.begin(p.isStmt())
	defer p.done()
	switch {
	case p.take("if"):
		return p.branch()
	case p.take("while"):
		return p.loop()
	case p.take("for"):
		return p.rounds()
	case p.isNameAheadOf("["):
		return p.put()
	case p.isNameAheadOf("("):
		return p.call(nil)
	}
	return p.set()
}

// branch reads a statement from behind its own word on; loop and rounds likewise.
func (p *parser) branch() api.Stmt {
	s := api.Stmt{Kind: api.StIf, E: p.expr()}
	s.Body = p.block()
	if p.take("else") {
		s.Else = p.block()
	}
	return s
}

func (p *parser) loop() api.Stmt {
	s := api.Stmt{Kind: api.StWhile, E: p.expr()}
	s.Body = p.block()
	return s
}

func (p *parser) rounds() api.Stmt {
	s := api.Stmt{Kind: api.StFor, Name: p.name()}
	s.Low = p.number()
	s.High = p.number()
	s.Body = p.block()
	return s
}

func (p *parser) put() api.Stmt {
	s := api.Stmt{Kind: api.StPut, Name: p.name()}
	s.A = p.place()
	p.want("=")
	s.E = p.expr()
	p.want(";")
	return s
}

// set reads a statement that sets words: only behind the = one sees whether it is a call.
func (p *parser) set() api.Stmt {
	names := list(p, p.name)
	p.want("=")
	if len(names) > 1 || p.isNameAheadOf("(") {
		return p.call(names)
	}
	s := api.Stmt{Kind: api.StSet, Name: names[0], E: p.expr()}
	p.want(";")
	return s
}

// call reads a call from the function's name on.
func (p *parser) call(names []string) api.Stmt {
	s := api.Stmt{Kind: api.StCall, Names: names, Name: p.name()}
	s.Args = inParens(p, p.expr)
	p.want(";")
	return s
}
