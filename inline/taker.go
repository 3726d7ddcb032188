package inline

import (
	"slices"

	"muffle/api"
)

// taker takes calls in, and leaves with ErrMany, if there is no room for what comes of it.
// Calls of a function share its expressions: so what is far too large, or too deep, costs no more than its statements do.
type taker struct {
	funcs map[string]taken
	room  int // how many statements more there may be
}

// resultOf is a program with its calls taken in. It shares memory with the program, and within itself.
func resultOf(p *api.Program, all map[string]taken) api.Program {
	last := p.Funcs[lastOf(p)]
	t := taker{all, api.MaxSize}
	var body []api.Stmt
	t.stmts(last.Body, &body)
	last.Body = body
	last.Vars = slices.Clone(last.Vars)
	for _, f := range reached(p) {
		last.Vars = append(last.Vars, all[p.Funcs[f].Name].vars...)
	}
	return api.Program{Regions: p.Regions, Funcs: []api.Func{last}}
}

// stmts lays statements behind out.
func (t *taker) stmts(l []api.Stmt, out *[]api.Stmt) {
	for i := range l {
		t.deed(l[i].Kind)(l[i], out)
	}
}

// deed is what is done with a kind of statement.
func (t *taker) deed(kind api.StmtKind) func(s api.Stmt, out *[]api.Stmt) {
	switch kind {
	case api.StIf, api.StWhile, api.StFor:
		return t.nest
	case api.StCall:
		return t.call
	}
	return t.lay
}

func (t *taker) lay(s api.Stmt, out *[]api.Stmt) {
	must(t.room > 0, api.ErrMany)
	t.room--
	*out = append(*out, s)
}

func (t *taker) nest(s api.Stmt, out *[]api.Stmt) {
	var body, other []api.Stmt
	t.stmts(s.Body, &body)
	t.stmts(s.Else, &other)
	s.Body, s.Else = body, other
	t.lay(s, out)
}

func (t *taker) call(s api.Stmt, out *[]api.Stmt) {
	f := t.funcs[s.Name]
	for i, e := range s.Args {
		t.set(f.params[i], e, out)
	}
	for _, v := range f.cleared {
		t.clear(v, out)
	}
	t.stmts(f.body, out)
	for i, name := range s.Names {
		t.set(name, api.Expr{Op: api.OpVar, Name: f.rets[i]}, out)
	}
}

func (t *taker) set(name string, e api.Expr, out *[]api.Stmt) {
	t.lay(api.Stmt{Kind: api.StSet, Name: name, E: e}, out)
}

// clear makes a variable 0, or all of its places.
func (t *taker) clear(v api.Var, out *[]api.Stmt) {
	zero := api.Expr{Op: api.OpConst}
	if v.Kind == api.VarReg {
		t.set(v.Name, zero, out)
		return
	}
	for i := range v.Size {
		t.lay(api.Stmt{Kind: api.StPut, Name: v.Name, A: api.Expr{Op: api.OpConst, Word: uint64(i)}, E: zero}, out)
	}
}
