package fold

import "muffle/api"

// result is what statements come to, one behind the other: what stands in their place, their terms, and what is known behind them.
type result struct {
	stmts []api.Stmt
	terms []api.Term
	known numbers
}

// resultOf is what a list comes to, by what is known ahead of it.
func resultOf(l []api.Stmt, ahead numbers) result {
	var of func(l []api.Stmt, ahead numbers) result
	of = func(l []api.Stmt, ahead numbers) result {
		r := result{known: ahead.copied()}
		for i := range l {
			s := &l[i]
			switch s.Kind {
			case api.StSet:
				r.set(s.Name, r.known.expr(s.E))
			case api.StPut:
				r.put(s.Name, r.known.expr(s.A), r.known.expr(s.E))
			case api.StIf:
				e := r.known.expr(s.E)
				switch {
				case e.Op != api.OpConst:
					r.branch(e, of(s.Body, r.known), of(s.Else, r.known))
				case e.Word != 0:
					r.take(true, of(s.Body, r.known))
				default:
					r.take(false, of(s.Else, r.known))
				}
			case api.StWhile:
				// Ahead of a round all rounds before it may have been done: so of what they set nothing is known, not even ahead of the first one.
				r.known.forget(Sets(s.Body...))
				r.loop(r.known.expr(s.E), of(s.Body, r.known))
			}
		}
		return r
	}
	return of(l, ahead)
}

func (r *result) lay(s api.Stmt, t api.Term) {
	r.stmts = append(r.stmts, s)
	r.terms = append(r.terms, t)
}

func (r *result) set(name string, e api.Expr) {
	r.lay(api.Stmt{Kind: api.StSet, Name: name, E: e}, api.Term{Kind: api.TermSame})
	r.known.learn(name, e)
}

func (r *result) put(name string, at, e api.Expr) {
	r.lay(api.Stmt{Kind: api.StPut, Name: name, A: at, E: e}, api.Term{Kind: api.TermSame})
}

// take lays the one way that is taken in the place of a branch.
func (r *result) take(taken bool, way result) {
	r.stmts = append(r.stmts, way.stmts...)
	r.terms = append(r.terms, api.Term{Kind: api.TermTaken, Taken: taken, Subs: [][]api.Term{way.terms}})
	r.known = way.known
}

func (r *result) branch(e api.Expr, body, other result) {
	r.lay(api.Stmt{Kind: api.StIf, E: e, Body: body.stmts, Else: other.stmts},
		api.Term{Kind: api.TermIf, Subs: [][]api.Term{body.terms, other.terms}})
	body.known.meet(other.known)
	r.known = body.known
}

func (r *result) loop(e api.Expr, body result) {
	r.lay(api.Stmt{Kind: api.StWhile, E: e, Body: body.stmts},
		api.Term{Kind: api.TermLoop, Subs: [][]api.Term{body.terms}})
}
