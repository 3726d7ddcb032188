package pretty

import (
	"muffle/api"
	"muffle/lex"
)

// May tells whether a program can be told.
func May(p api.Program) bool {
	return every(p.Regions, mayRegion) && every(p.Funcs, mayFunc)
}

func mayRegion(r api.Region) bool {
	return lex.Name(r.Name) && r.Addr >= 0 && r.Size >= 0
}

func mayFunc(f api.Func) bool {
	return lex.Name(f.Name) && every(f.Params, mayParam) && every(f.Vars, mayVar) && every(f.Rets, lex.Name) && mayBody(f.Body)
}

func mayParam(v api.Var) bool {
	return lex.Name(v.Name) && v.Kind == api.VarReg && v.Size == 0
}

func mayVar(v api.Var) bool {
	switch v.Kind {
	case api.VarReg:
		return mayParam(v) && !v.Secret
	case api.VarArray, api.VarStack:
		return lex.Name(v.Name) && v.Size >= 0
	}
	return false
}

// mayBody tells whether statements can be told that stand in no others.
// How deep they are is asked first, so that nothing else need go deeper.
func mayBody(l []api.Stmt) bool {
	return Deep(l...) <= api.MaxNest && every(l, mayStmt)
}

// mayStmt tells whether a statement is as its kind says, however deep it is.
func mayStmt(s api.Stmt) bool {
	may := false
	rest := s
	rest.Kind = 0
	switch s.Kind {
	case api.StSet:
		may = lex.Name(s.Name) && mayExpr(s.E)
		rest.Name, rest.E = "", api.Expr{}
	case api.StPut:
		may = lex.Name(s.Name) && mayExpr(s.A) && mayExpr(s.E)
		rest.Name, rest.A, rest.E = "", api.Expr{}, api.Expr{}
	case api.StIf:
		may = mayExpr(s.E) && every(s.Body, mayStmt) && every(s.Else, mayStmt)
		rest.E, rest.Body, rest.Else = api.Expr{}, nil, nil
	case api.StWhile:
		may = mayExpr(s.E) && every(s.Body, mayStmt)
		rest.E, rest.Body = api.Expr{}, nil
	case api.StFor:
		may = lex.Name(s.Name) && every(s.Body, mayStmt)
		rest.Name, rest.Low, rest.High, rest.Body = "", 0, 0, nil
	case api.StCall:
		may = lex.Name(s.Name) && every(s.Names, lex.Name) && every(s.Args, mayExpr)
		rest.Name, rest.Names, rest.Args = "", nil, nil
	}
	return may && isZeroStmt(rest)
}

// mayExpr tells whether an expression is as its operation says, however deep it is.
func mayExpr(e api.Expr) bool {
	if len(e.Args) != argsOf(e.Op) || !every(e.Args, mayExpr) {
		return false
	}
	switch {
	case e.Op == api.OpConst:
		return e.Name == ""
	case e.Op == api.OpVar || e.Op == api.OpIndex:
		return e.Word == 0 && lex.Name(e.Name)
	case e.Op >= api.OpNot && e.Op <= api.OpPick:
		return e.Word == 0 && e.Name == ""
	}
	return false
}

// argsOf is how many arguments an operation has.
func argsOf(op api.Op) int {
	switch {
	case op == api.OpPick:
		return 3
	case op >= api.OpAdd && op <= api.OpLe:
		return 2
	case op >= api.OpIndex && op <= api.OpNeg:
		return 1
	}
	return 0
}

func isZeroStmt(s api.Stmt) bool {
	return s.Kind == 0 && s.Name == "" && len(s.Names) == 0 && isZeroExpr(&s.E) && isZeroExpr(&s.A) && len(s.Args) == 0 &&
		s.Low == 0 && s.High == 0 && len(s.Body) == 0 && len(s.Else) == 0
}

func isZeroExpr(e *api.Expr) bool {
	return e.Op == 0 && e.Word == 0 && e.Name == "" && len(e.Args) == 0
}

func every[T any](l []T, is func(x T) bool) bool {
	for _, x := range l {
		if !is(x) {
			return false
		}
	}
	return true
}
