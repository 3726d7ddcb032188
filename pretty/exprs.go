package pretty

import (
	"strconv"

	"muffle/api"
)

// Sign is an operation's sign.
func Sign(op api.Op) (string, bool) {
	s, is := signs()[op]
	return s.text, is
}

// Op is the operation of a sign.
func Op(text string) (api.Op, bool) {
	for op, s := range signs() {
		if s.text == text {
			return op, true
		}
	}
	return 0, false
}

// sign is how an operation is told that stands between its two arguments.
type sign struct{ text string }

func signs() map[api.Op]sign {
	return map[api.Op]sign{
		api.OpAdd: {"+"}, api.OpSub: {"-"}, api.OpMul: {"*"},
		api.OpAnd: {"&"}, api.OpOr: {"|"}, api.OpXor: {"^"},
		api.OpShl: {"<<"}, api.OpShr: {">>"}, api.OpSar: {">>>"}, api.OpRol: {"<<<"}, api.OpRor: {">>>>"},
		api.OpEq: {"=="}, api.OpNe: {"!="}, api.OpLt: {"<"}, api.OpLe: {"<="},
	}
}

// teller makes texts of expressions and of what they stand in. All of these can be told.
type teller struct {
	signs map[api.Op]sign // made once for all that one call tells
}

func newTeller() teller {
	return teller{signs()}
}

func (t teller) exprText(e *api.Expr) string {
	return string(t.expr(nil, e))
}

// expr lays an expression's text behind b.
func (t teller) expr(b []byte, e *api.Expr) []byte {
	switch e.Op {
	case api.OpConst:
		return strconv.AppendUint(b, e.Word, 10)
	case api.OpVar:
		return append(b, e.Name...)
	case api.OpIndex:
		return t.place(b, e.Name, &e.Args[0])
	case api.OpNot:
		return t.expr(append(b, '~'), &e.Args[0])
	case api.OpNeg:
		return t.expr(append(b, '-'), &e.Args[0])
	case api.OpPick:
		return t.list(append(b, "pick"...), e.Args)
	}
	b = t.expr(append(b, '('), &e.Args[0])
	b = append(b, ' ')
	b = append(b, t.signs[e.Op].text...)
	b = t.expr(append(b, ' '), &e.Args[1])
	return append(b, ')')
}

// place lays an array's place behind b.
func (t teller) place(b []byte, name string, at *api.Expr) []byte {
	b = append(b, name...)
	b = t.expr(append(b, '['), at)
	return append(b, ']')
}

// list lays expressions behind b, within parentheses.
func (t teller) list(b []byte, l []api.Expr) []byte {
	b = append(b, '(')
	for i := range l {
		if i > 0 {
			b = append(b, between...)
		}
		b = t.expr(b, &l[i])
	}
	return append(b, ')')
}

// between stands between the items of a list.
const between = ", "
