package scope

import (
	"slices"

	"muffle/api"
)

// Clone is a program in new memory.
func Clone(p api.Program) api.Program {
	return api.Program{Regions: fresh(p.Regions), Funcs: copied(p.Funcs, func(f *api.Func) {
		f.Params, f.Vars, f.Rets = fresh(f.Params), fresh(f.Vars), fresh(f.Rets)
		f.Body = copied(f.Body, renewStmt)
	})}
}

// renewStmt lays the lists of a statement that was copied into new memory.
func renewStmt(s *api.Stmt) {
	renewExpr(&s.E)
	renewExpr(&s.A)
	s.Names, s.Args = fresh(s.Names), copied(s.Args, renewExpr)
	s.Body, s.Else = copied(s.Body, renewStmt), copied(s.Else, renewStmt)
}

func renewExpr(e *api.Expr) {
	e.Args = copied(e.Args, renewExpr)
}

// copied is a list in new memory, whose items' own lists are renewed.
func copied[T any](l []T, renew func(x *T)) []T {
	out := fresh(l)
	for i := range out {
		renew(&out[i])
	}
	return out
}

func fresh[T any](l []T) []T {
	return append([]T(nil), l...)
}

// Same tells whether two programs are the same.
func Same(a, b api.Program) bool {
	return slices.Equal(a.Regions, b.Regions) && slices.EqualFunc(a.Funcs, b.Funcs, sameFunc)
}

func sameFunc(a, b api.Func) bool {
	return a.Name == b.Name && slices.Equal(a.Params, b.Params) && slices.Equal(a.Vars, b.Vars) &&
		slices.Equal(a.Rets, b.Rets) && slices.EqualFunc(a.Body, b.Body, sameStmt)
}

func sameStmt(a, b api.Stmt) bool {
	return a.Kind == b.Kind && a.Name == b.Name && slices.Equal(a.Names, b.Names) &&
		sameExpr(a.E, b.E) && sameExpr(a.A, b.A) && slices.EqualFunc(a.Args, b.Args, sameExpr) && a.Low == b.Low && a.High == b.High &&
		slices.EqualFunc(a.Body, b.Body, sameStmt) && slices.EqualFunc(a.Else, b.Else, sameStmt)
}

func sameExpr(a, b api.Expr) bool {
	return a.Op == b.Op && a.Word == b.Word && a.Name == b.Name && slices.EqualFunc(a.Args, b.Args, sameExpr)
}
