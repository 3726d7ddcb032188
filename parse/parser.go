package parse

import (
	"muffle/api"
	"muffle/lex"
)

// parser reads a text's tokens, from the first on.
type parser struct {
	tokens []api.Token // the last one is the end
	at     int
	within int // how many expressions and statements are begun, and not yet at their ends
}

// end is the text of the token that stands for a text's end: no other one's text is empty.
const end = ""

func newParser(text string) *parser {
	tokens, fault := lex.All(text)
	if fault != (api.Fault{}) {
		panic(wrong{fault.Errno, fault.Line, fault.Col})
	}
	line, col := lex.Line(text, len(text))
	return &parser{tokens: append(tokens, api.Token{Text: end, Line: line, Col: col})}
}

// wrong is an error at the token at hand.
func (p *parser) wrong(why api.Errno) wrong {
	t := p.here()
	return wrong{why, t.Line, t.Col}
}

// here is the token at hand.
func (p *parser) here() api.Token {
	return p.tokens[p.at]
}

// is tells whether the token at hand has this text. A sign's or an own word's is no other token's.
func (p *parser) is(text string) bool {
	return p.here().Text == text
}

// isNameAheadOf tells whether the token at hand is a name, and the next one has this text.
func (p *parser) isNameAheadOf(text string) bool {
	return p.here().Kind == api.TokenName && p.tokens[p.at+1].Text == text
}

// take goes on, if the token at hand has this text.
func (p *parser) take(text string) bool {
	if !p.is(text) {
		return false
	}
	p.at++
	return true
}

func (p *parser) want(text string) {
	if !p.take(text) {
		panic(p.wrong(api.ErrSyntax))
	}
}

func (p *parser) wantEnd() {
	if !p.is(end) {
		panic(p.wrong(api.ErrSyntax))
	}
}

// token goes on, if the token at hand has this kind, and answers it.
func (p *parser) token(kind api.TokenKind) api.Token {
	t := p.here()
	if t.Kind != kind {
		panic(p.wrong(api.ErrSyntax))
	}
	p.at++
	return t
}

func (p *parser) name() string {
	return p.token(api.TokenName).Text
}

func (p *parser) number() uint64 {
	return p.token(api.TokenNumber).Word
}

// maxSize is the greatest number that may be told where an Addr or a Size is.
const maxSize = 1<<31 - 1

// size reads a number that is an Addr or a Size.
func (p *parser) size() int {
	if p.here().Word > maxSize {
		panic(p.wrong(api.ErrSyntax))
	}
	return int(p.number())
}

// begin goes into an expression or a statement, if the token at hand begins one: how deep it would be is not asked of a token that begins none.
func (p *parser) begin(begins bool) {
	if !begins {
		panic(p.wrong(api.ErrSyntax))
	}
	if p.within == api.MaxNest {
		panic(p.wrong(api.ErrNest))
	}
	p.within++
}

func (p *parser) done() {
	p.within--
}

// list reads one thing or more, with commas between.
func list[T any](p *parser, one func() T) []T {
	l := []T{one()}
	for p.take(",") {
		l = append(l, one())
	}
	return l
}

// inParens reads things with commas between, or none, within parentheses.
func inParens[T any](p *parser, one func() T) []T {
	var l []T
	p.want("(")
	if !p.is(")") {
		l = list(p, one)
	}
	p.want(")")
	return l
}

// allAhead reads things until one stands at a token of this text.
func allAhead[T any](p *parser, text string, one func() T) []T {
	var l []T
	for !p.is(text) {
		l = append(l, one())
	}
	return l
}
