package fold_test

import (
	"maps"
	"slices"

	"muffle/api"
	"muffle/scope"
)

// The model is the chapter said again, row by row, without a thought of how long it takes.

// modelSafe tells whether an expression has no OpIndex.
func modelSafe(e api.Expr) bool {
	safe := e.Op != api.OpIndex
	for _, arg := range e.Args {
		safe = modelSafe(arg) && safe
	}
	return safe
}

func modelExpr(e api.Expr, k known) api.Expr {
	var args exprs
	numbers := true
	var words []uint64
	for _, arg := range e.Args {
		arg = modelExpr(arg, k)
		args = append(args, arg)
		numbers = numbers && arg.Op == api.OpConst
		words = append(words, arg.Word)
	}
	n, is := k[e.Name]
	operation := e.Op >= api.OpNot && e.Op <= api.OpPick && len(args) == argsOf(e.Op)
	switch {
	case e.Op == api.OpVar && is:
		return word(n)
	case operation && numbers:
		return word(reckoned(e.Op, words...))
	case operation && e.Op == api.OpPick && args[0].Op == api.OpConst && words[0] != 0 && modelSafe(args[2]):
		return args[1]
	case operation && e.Op == api.OpPick && args[0].Op == api.OpConst && words[0] == 0 && modelSafe(args[1]):
		return args[2]
	}
	return api.Expr{Op: e.Op, Word: e.Word, Name: e.Name, Args: args}
}

func modelSets(l stmts) []string {
	var names []string
	for _, s := range l {
		if s.Kind == api.StSet || s.Kind == api.StFor {
			names = append(names, s.Name)
		}
		if s.Kind == api.StCall {
			names = append(names, s.Names...)
		}
		names = slices.Concat(names, modelSets(s.Body), modelSets(s.Else))
	}
	slices.Sort(names)
	return slices.Compact(names)
}

// modelStmt is what a statement comes to, its term, and what is known behind it; what is handed in is not changed.
func modelStmt(s api.Stmt, ahead known) (stmts, api.Term, known) {
	behind := maps.Clone(ahead)
	switch s.Kind {
	case api.StSet:
		e := modelExpr(s.E, ahead)
		delete(behind, s.Name)
		if e.Op == api.OpConst {
			behind[s.Name] = e.Word
		}
		return stmts{set(s.Name, e)}, api.Term{Kind: api.TermSame}, behind
	case api.StPut:
		return stmts{put(s.Name, modelExpr(s.A, ahead), modelExpr(s.E, ahead))}, api.Term{Kind: api.TermSame}, behind
	case api.StWhile:
		for _, name := range modelSets(s.Body) {
			delete(behind, name)
		}
		body, terms, _ := modelStmts(s.Body, behind)
		return stmts{while(modelExpr(s.E, behind), body...)}, api.Term{Kind: api.TermLoop, Subs: [][]api.Term{terms}}, behind
	}
	e := modelExpr(s.E, ahead)
	body, terms, first := modelStmts(s.Body, ahead)
	other, otherTerms, second := modelStmts(s.Else, ahead)
	switch {
	case e.Op == api.OpConst && e.Word != 0:
		return body, api.Term{Kind: api.TermTaken, Taken: true, Subs: [][]api.Term{terms}}, first
	case e.Op == api.OpConst:
		return other, api.Term{Kind: api.TermTaken, Subs: [][]api.Term{otherTerms}}, second
	}
	both := known{}
	for name, n := range first {
		if m, is := second[name]; is && m == n {
			both[name] = n
		}
	}
	return stmts{{Kind: api.StIf, E: e, Body: body, Else: other}}, api.Term{Kind: api.TermIf, Subs: [][]api.Term{terms, otherTerms}}, both
}

func modelStmts(l stmts, k known) (stmts, []api.Term, known) {
	var out stmts
	var terms []api.Term
	for _, s := range l {
		var now stmts
		var term api.Term
		now, term, k = modelStmt(s, k)
		out, terms = append(out, now...), append(terms, term)
	}
	return out, terms, k
}

// modelProgram is what Program should answer of a program of one function that may be, and has no loops of a number of rounds.
func modelProgram(p api.Program) (api.Program, []api.Term) {
	out := scope.Clone(p)
	f := &out.Funcs[0]
	k := known{}
	for _, v := range f.Vars {
		if v.Kind == api.VarReg {
			k[v.Name] = 0
		}
	}
	body, terms, _ := modelStmts(f.Body, k)
	f.Body = body
	return out, terms
}

// modelRounds is what Rounds should answer of such a program.
func modelRounds(p api.Program) (api.Program, [][]api.Term) {
	var all [][]api.Term
	for len(all) < api.MaxRounds {
		q, terms := modelProgram(p)
		if scope.Same(p, q) {
			break
		}
		p, all = q, append(all, terms)
	}
	return p, all
}
