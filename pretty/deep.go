package pretty

import "muffle/api"

// Depth is how deep an expression is.
func Depth(e api.Expr) int {
	return depthOf(&e)
}

// Deep is how deep the deepest of statements is.
func Deep(l ...api.Stmt) int {
	return deepest(l, deepOf)
}

func depthOf(e *api.Expr) int {
	return 1 + deepest(e.Args, depthOf)
}

func deepOf(s *api.Stmt) int {
	deep := max(deepest(s.Args, depthOf), deepest(s.Body, deepOf), deepest(s.Else, deepOf))
	// Each statement has both fields: a zero one says that there is no expression.
	if !isZeroExpr(&s.E) {
		deep = max(deep, depthOf(&s.E))
	}
	if !isZeroExpr(&s.A) {
		deep = max(deep, depthOf(&s.A))
	}
	return 1 + deep
}

// deepest is the greatest depth of what a list has; 0 of none.
func deepest[T any](l []T, depth func(x *T) int) int {
	deep := 0
	for i := range l {
		deep = max(deep, depth(&l[i]))
	}
	return deep
}
