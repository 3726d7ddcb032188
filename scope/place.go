package scope

import (
	"slices"

	"muffle/api"
)

// place is where in a program a part stands, and so what is asked of it.
// It is handed along as a copy: what is asked within a part changes nothing of what is asked behind it.
type place struct {
	p      *api.Program
	f      int            // the function's number
	counts map[string]int // of each name how many loops of the function have it
	around []string       // the names that loops around have
	deep   int
}

// placeIn is where the statements of the function f stand that are in no others.
func placeIn(p *api.Program, f int) place {
	counts := map[string]int{}
	eachStmt(p.Funcs[f].Body, 1, func(s *api.Stmt, _ int) {
		if s.Kind == api.StFor {
			counts[s.Name]++
		}
	})
	return place{p: p, f: f, counts: counts, deep: 1}
}

func (at place) stmts(l []api.Stmt) {
	for i := range l {
		at.stmt(&l[i])
	}
}

func (at place) stmt(s *api.Stmt) {
	must(at.deep <= api.MaxNest, api.ErrNest)
	must(hasOwnParts(*s), api.ErrKind)
	switch s.Kind {
	case api.StSet:
		at.set(s.Name)
	case api.StPut:
		at.array(s.Name)
	case api.StFor:
		at.loop(s)
	case api.StCall:
		at.call(s)
	}
	at.parts(s)
}

// hasOwnParts tells whether a statement's kind is one, and has all of its parts that are not zero.
func hasOwnParts(s api.Stmt) bool {
	switch s.Kind {
	case api.StPut:
		s.A = api.Expr{}
		fallthrough
	case api.StSet:
		s.Name, s.E = "", api.Expr{}
	case api.StIf:
		s.Else = nil
		fallthrough
	case api.StWhile:
		s.E, s.Body = api.Expr{}, nil
	case api.StFor:
		s.Name, s.Low, s.High, s.Body = "", 0, 0, nil
	case api.StCall:
		s.Name, s.Names, s.Args = "", nil, nil
	default:
		return false
	}
	s.Kind = 0
	return isZeroStmt(&s)
}

// parts asks of a statement's parts, one behind the other. Those that its kind does not have are zero.
func (at place) parts(s *api.Stmt) {
	switch s.Kind {
	case api.StPut:
		at.expr(&s.A)
		fallthrough
	case api.StSet, api.StIf, api.StWhile:
		at.expr(&s.E)
	}
	for i := range s.Args {
		at.expr(&s.Args[i])
	}
	if s.Kind == api.StFor {
		at.around = append(slices.Clip(at.around), s.Name)
	}
	at.deep++
	at.stmts(s.Body)
	at.stmts(s.Else)
}

// set asks of a name that is set.
func (at place) set(name string) {
	at.word(name)
	must(at.counts[name] == 0, api.ErrArg)
}

func (at place) loop(s *api.Stmt) {
	at.word(s.Name)
	must(!slices.Contains(at.around, s.Name), api.ErrArg)
	must(s.Low <= s.High && s.High <= api.MaxSize, api.ErrArg)
	f := &at.p.Funcs[at.f]
	must(!slices.Contains(f.Rets, s.Name), api.ErrArg)
	must(!slices.ContainsFunc(f.Params, func(v api.Var) bool { return v.Name == s.Name }), api.ErrArg)
}

func (at place) call(s *api.Stmt) {
	f := slices.IndexFunc(at.p.Funcs, func(f api.Func) bool { return f.Name == s.Name })
	must(f >= 0, api.ErrName)
	must(f < at.f, api.ErrKind)
	for i, name := range s.Names {
		at.set(name)
		must(!slices.Contains(s.Names[:i], name), api.ErrArg)
	}
	must(len(s.Args) == len(at.p.Funcs[f].Params) && len(s.Names) == len(at.p.Funcs[f].Rets), api.ErrArg)
}

func (at place) expr(e *api.Expr) {
	must(at.deep <= api.MaxNest, api.ErrNest)
	must(len(e.Args) == argsOf(e.Op) && (e.Word == 0 || e.Op == api.OpConst), api.ErrKind)
	switch e.Op {
	case api.OpVar:
		at.word(e.Name)
	case api.OpIndex:
		at.array(e.Name)
	default:
		must(e.Name == "", api.ErrKind)
	}
	at.deep++
	for i := range e.Args {
		at.expr(&e.Args[i])
	}
}

// argsOf is how many arguments an operation has; -1 of what is none.
func argsOf(op api.Op) int {
	switch {
	case op < api.OpConst || op > api.OpPick:
		return -1
	case op <= api.OpVar:
		return 0
	case op <= api.OpNeg:
		return 1
	case op <= api.OpLe:
		return 2
	}
	return 3
}

// word asks whether a name is a word's.
func (at place) word(name string) {
	must(at.kindOf(name) == api.VarReg, api.ErrKind)
}

// array asks whether a name is an array's or a region's.
func (at place) array(name string) {
	must(at.kindOf(name) != api.VarReg, api.ErrKind)
}

func (at place) kindOf(name string) api.VarKind {
	v, is, _ := Find(*at.p, at.f, name)
	must(is, api.ErrName)
	return v.Kind
}
