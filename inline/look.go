package inline

import (
	"slices"

	"muffle/api"
	"muffle/scope"
)

func lastOf(p *api.Program) int {
	return len(p.Funcs) - 1
}

// eachStmt shows each statement of a list, ahead of those within it.
func eachStmt(l []api.Stmt, see func(s *api.Stmt)) {
	for i := range l {
		see(&l[i])
		eachStmt(l[i].Body, see)
		eachStmt(l[i].Else, see)
	}
}

func eachCall(l []api.Stmt, see func(s *api.Stmt)) {
	eachStmt(l, func(s *api.Stmt) {
		if s.Kind == api.StCall {
			see(s)
		}
	})
}

func reached(p *api.Program) []int {
	last := lastOf(p)
	is := make([]bool, last+1)
	is[last] = true
	// All that call a function stand behind it: so they were asked ahead of it.
	for f, fn := range slices.Backward(p.Funcs) {
		if is[f] {
			eachCall(fn.Body, func(s *api.Stmt) { is[numberOf(p, s.Name)] = true })
		}
	}
	var l []int
	for f := range last {
		if is[f] {
			l = append(l, f)
		}
	}
	return l
}

func numberOf(p *api.Program, name string) int {
	return slices.IndexFunc(p.Funcs, func(f api.Func) bool { return f.Name == name })
}

// find tells the variable, or the region, that a name is, and whether it is one.
type find func(name string) (api.Var, bool)

// finder finds what names are to the function f.
func finder(p *api.Program, f int) find {
	return func(name string) (api.Var, bool) {
		v, is, _ := scope.Find(*p, f, name)
		return v, is
	}
}

// places is how many places an expression leaks where names are what they are found to be.
func places(e *api.Expr, own find) int {
	n := 0
	if e.Op == api.OpIndex {
		if v, is := own(e.Name); is && v.Kind == api.VarStack {
			n++
		}
	}
	for i := range e.Args {
		n += places(&e.Args[i], own)
	}
	return n
}
