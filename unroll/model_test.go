package unroll_test

import (
	"muffle/api"
	"muffle/scope"
)

// The model is the chapter said again, without a thought of how large it grows: what it makes must be small.

// modelPut is a list in which a word is a number.
func modelPut(l stmts, s string, n uint64) stmts {
	var out stmts
	for _, x := range l {
		if x.Kind != api.StFor || x.Name != s {
			x.E, x.A = modelExpr(x.E, s, n), modelExpr(x.A, s, n)
			args := exprs{}
			for _, arg := range x.Args {
				args = append(args, modelExpr(arg, s, n))
			}
			x.Args, x.Body, x.Else = args, modelPut(x.Body, s, n), modelPut(x.Else, s, n)
		}
		out = append(out, x)
	}
	return out
}

func modelExpr(e api.Expr, s string, n uint64) api.Expr {
	if e.Op == api.OpVar && e.Name == s {
		return word(n)
	}
	args := exprs{}
	for _, arg := range e.Args {
		args = append(args, modelExpr(arg, s, n))
	}
	e.Args = args
	return e
}

// modelLaid is a list laid out, one loop after the other, from the outermost on; its terms; and how many rounds it has.
func modelLaid(l stmts) (stmts, []api.Term, int) {
	var out stmts
	var terms []api.Term
	rounds := 0
	for _, x := range l {
		if x.Kind == api.StFor {
			term := api.Term{Kind: api.TermFor}
			for n := x.Low; n != x.High; n++ {
				body, sub, within := modelLaid(modelPut(x.Body, x.Name, n))
				out, term.Subs, rounds = append(out, body...), append(term.Subs, sub), rounds+1+within
			}
			terms = append(terms, term)
			continue
		}
		body, first, n := modelLaid(x.Body)
		other, second, m := modelLaid(x.Else)
		x.Body, x.Else, rounds = body, other, rounds+n+m
		out = append(out, x)
		switch x.Kind {
		case api.StIf:
			terms = append(terms, api.Term{Kind: api.TermIf, Subs: [][]api.Term{first, second}})
		case api.StWhile:
			terms = append(terms, api.Term{Kind: api.TermLoop, Subs: [][]api.Term{first}})
		default:
			terms = append(terms, api.Term{Kind: api.TermSame})
		}
	}
	return out, terms, rounds
}

// modelProgram is what Program should answer of what may be, and how many rounds it has.
func modelProgram(p api.Program) (api.Program, []api.Term, int, api.Errno) {
	out := scope.Clone(p)
	f := &out.Funcs[len(out.Funcs)-1]
	body, terms, rounds := modelLaid(f.Body)
	f.Body = body
	if len(p.Funcs) > 1 {
		return api.Program{}, nil, rounds, api.ErrKind
	}
	if errno := scope.May(out); errno != api.OK || rounds > api.MaxSize {
		return api.Program{}, nil, rounds, api.ErrMany
	}
	return out, terms, rounds, api.OK
}
