package unroll

import (
	"maps"
	"slices"

	"muffle/api"
)

// numbers are what words are known to be.
type numbers map[string]uint64

// stmts are statements in new memory, in which each word that is known is its number.
func (k numbers) stmts(l []api.Stmt) []api.Stmt {
	return each(l, func(s api.Stmt) api.Stmt {
		inner := k.inside(&s)
		return inner.stmt(s, inner.stmts)
	})
}

// stmt is a statement in new memory, with what comes of those that are within it.
func (k numbers) stmt(s api.Stmt, within func(l []api.Stmt) []api.Stmt) api.Stmt {
	s.Names = slices.Clone(s.Names)
	s.E, s.A, s.Args = k.expr(s.E), k.expr(s.A), each(s.Args, k.expr)
	s.Body, s.Else = within(s.Body), within(s.Else)
	return s
}

func (k numbers) expr(e api.Expr) api.Expr {
	if n, is := k[e.Name]; is && e.Op == api.OpVar {
		return api.Expr{Op: api.OpConst, Word: n}
	}
	e.Args = each(e.Args, k.expr)
	return e
}

// inside is what is known in a statement: a loop's own word is not.
func (k numbers) inside(s *api.Stmt) numbers {
	if _, is := k[s.Name]; !is || s.Kind != api.StFor {
		return k
	}
	inner := maps.Clone(k)
	delete(inner, s.Name)
	return inner
}

// each is a list in new memory, of what comes of each.
func each[S, T any](l []S, of func(x S) T) []T {
	if len(l) == 0 {
		return nil
	}
	out := make([]T, len(l))
	for i, x := range l {
		out[i] = of(x)
	}
	return out
}
