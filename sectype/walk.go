package sectype

import (
	"slices"

	"muffle/api"
)

// walk goes through a program, statement by statement, and leaves where its secrets are not kept.
type walk struct {
	p     *api.Program
	begun int // how many statements
	bases map[part]basis
}

// part is an expression where it stands. Functions may share their lists, and mean other arrays by the same name.
type part struct {
	f int // the function's number
	e *api.Expr
}

// function goes through the function f, and answers the levels of its Rets.
// What its Params are handed counts for nothing here: a call's Args are asked where it stands.
func (w *walk) function(f int) []bool {
	fn := &w.p.Funcs[f]
	at := levels{}
	for _, v := range fn.Params {
		at.set(v.Name, v.Secret)
	}
	w.stmts(f, fn.Body, at)
	var rets []bool
	for _, name := range fn.Rets {
		rets = append(rets, at.secret(name))
	}
	return rets
}

// stmts goes through statements of the function f, from the levels at: behind it, these are those behind them.
func (w *walk) stmts(f int, l []api.Stmt, at levels) {
	for i := range l {
		must(w.begun < api.MaxSize, api.ErrMany)
		w.begun++
		w.stmt(f, &l[i], at)
	}
}

func (w *walk) stmt(f int, s *api.Stmt, at levels) {
	switch s.Kind {
	case api.StSet:
		at.set(s.Name, w.level(f, &s.E, at))
	case api.StPut:
		w.mustBePublic(f, &s.A, at)
		if w.level(f, &s.E, at) {
			must(isSecret(w.p, f, s.Name), api.ErrSecret)
		}
	case api.StIf:
		w.mustBePublic(f, &s.E, at)
		other := at.copied()
		w.stmts(f, s.Body, at)
		w.stmts(f, s.Else, other)
		at.join(other)
	case api.StWhile:
		at.settle(func(at levels) {
			w.mustBePublic(f, &s.E, at)
			w.stmts(f, s.Body, at)
		})
	case api.StFor:
		// Its Name is public already: it is no Param, and scope lets nothing else set it.
		at.settle(func(at levels) { w.stmts(f, s.Body, at) })
	case api.StCall:
		w.call(f, s, at)
	}
}

func (w *walk) call(f int, s *api.Stmt, at levels) {
	called := slices.IndexFunc(w.p.Funcs, func(fn api.Func) bool { return fn.Name == s.Name })
	params := w.p.Funcs[called].Params
	for i := range s.Args {
		if w.level(f, &s.Args[i], at) {
			must(params[i].Secret, api.ErrSecret)
		}
	}
	for i, secret := range w.function(called) {
		at.set(s.Names[i], secret)
	}
}

func (w *walk) mustBePublic(f int, e *api.Expr, at levels) {
	must(!w.level(f, e, at), api.ErrSecret)
}

func (w *walk) level(f int, e *api.Expr, at levels) bool {
	here := part{f, e}
	b, is := w.bases[here]
	if !is {
		b = basisOf(w.p, f, e)
		w.bases[here] = b
	}
	return b.level(at)
}
