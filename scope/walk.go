package scope

import "muffle/api"

// eachStmt shows each statement of a list, ahead of those within it, and how deep it is; those that are too deep it does not show.
func eachStmt(l []api.Stmt, deep int, see func(s *api.Stmt, deep int)) {
	if deep > api.MaxNest {
		return
	}
	for i := range l {
		see(&l[i], deep)
		eachStmt(l[i].Body, deep+1, see)
		eachStmt(l[i].Else, deep+1, see)
	}
}

// eachExpr calls see for each expression of a statement that is so deep, whatever parts the statement's kind has; those that are too deep it passes over.
func eachExpr(s *api.Stmt, deep int, see func()) {
	var within func(l []api.Expr, deep int)
	within = func(l []api.Expr, deep int) {
		if deep > api.MaxNest {
			return
		}
		for i := range l {
			see()
			within(l[i].Args, deep+1)
		}
	}
	// Each statement has all of its fields: a zero one says that there is no expression.
	own := func(e *api.Expr) {
		if !isZeroExpr(e) {
			see()
			within(e.Args, deep+1)
		}
	}
	own(&s.A)
	own(&s.E)
	for i := range s.Args {
		own(&s.Args[i])
	}
}

func isZeroStmt(s *api.Stmt) bool {
	return s.Kind == 0 && s.Name == "" && len(s.Names) == 0 && isZeroExpr(&s.E) && isZeroExpr(&s.A) && len(s.Args) == 0 &&
		s.Low == 0 && s.High == 0 && len(s.Body) == 0 && len(s.Else) == 0
}

func isZeroExpr(e *api.Expr) bool {
	return e.Op == 0 && e.Word == 0 && e.Name == "" && len(e.Args) == 0
}
