package pretty

import (
	"slices"

	"muffle/api"
)

// Same tells whether two programs are the same.
func Same(a, b api.Program) bool {
	return slices.Equal(a.Regions, b.Regions) && slices.EqualFunc(a.Funcs, b.Funcs, sameFunc)
}

// SameExpr tells whether two expressions are the same.
func SameExpr(a, b api.Expr) bool {
	return a.Op == b.Op && a.Word == b.Word && a.Name == b.Name && slices.EqualFunc(a.Args, b.Args, SameExpr)
}

// SameStmts tells whether two lists of statements are the same.
func SameStmts(a, b []api.Stmt) bool {
	return slices.EqualFunc(a, b, sameStmt)
}

func sameFunc(a, b api.Func) bool {
	return a.Name == b.Name && slices.Equal(a.Params, b.Params) && slices.Equal(a.Vars, b.Vars) &&
		slices.Equal(a.Rets, b.Rets) && SameStmts(a.Body, b.Body)
}

func sameStmt(a, b api.Stmt) bool {
	return a.Kind == b.Kind && a.Name == b.Name && slices.Equal(a.Names, b.Names) &&
		SameExpr(a.E, b.E) && SameExpr(a.A, b.A) && slices.EqualFunc(a.Args, b.Args, SameExpr) &&
		a.Low == b.Low && a.High == b.High && SameStmts(a.Body, b.Body) && SameStmts(a.Else, b.Else)
}
