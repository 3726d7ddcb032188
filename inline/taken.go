package inline

import (
	"slices"
	"strconv"

	"muffle/api"
)

// taken is a function as it is taken in. Its new names are the same ones at each call.
type taken struct {
	number  int
	names   map[string]api.Var // its variables, as they are called in it
	vars    []api.Var          // with their new names, in order
	params  []string
	cleared []api.Var // those that are 0 ahead of its Body
	rets    []string
	body    []api.Stmt // its calls stand as they were
}

// takenOf is all functions that are reached, by their names.
func takenOf(p *api.Program) map[string]taken {
	all := map[string]taken{}
	next := namer(p)
	for _, f := range reached(p) {
		t := taken{number: f, names: map[string]api.Var{}}
		t.name(&p.Funcs[f], next)
		t.renew(&p.Funcs[f])
		all[p.Funcs[f].Name] = t
	}
	return all
}

// namer gives one new name behind the other.
func namer(p *api.Program) func() string {
	own := finder(p, lastOf(p))
	k := -1
	return func() string {
		for {
			k++
			name := "v" + strconv.Itoa(k)
			if _, is := own(name); !is {
				return name
			}
		}
	}
}

func (t *taken) name(f *api.Func, next func() string) {
	for _, v := range slices.Concat(f.Params, f.Vars) {
		old := v.Name
		v.Name = next()
		// Secret is for those who call: in the result a parameter is a word like others.
		v.Secret = v.Secret && v.Kind != api.VarReg
		t.names[old] = v
		t.vars = append(t.vars, v)
	}
}

// renew lays a function's own parts into new memory, with the new names.
func (t *taken) renew(f *api.Func) {
	for _, v := range f.Params {
		t.params = append(t.params, t.renamed(v.Name))
	}
	counts := map[string]int{}
	eachStmt(f.Body, func(s *api.Stmt) {
		if s.Kind == api.StFor {
			counts[s.Name]++
		}
	})
	for _, v := range f.Vars {
		// What counts is 0 ahead of its loops, and behind them: so it is 0 at each call.
		if counts[v.Name] == 0 {
			t.cleared = append(t.cleared, t.names[v.Name])
		}
	}
	t.rets = each(f.Rets, t.renamed)
	t.body = each(f.Body, t.stmt)
}

// each is a list in new memory, of what comes of each.
func each[T any](l []T, of func(x T) T) []T {
	var out []T
	for _, x := range l {
		out = append(out, of(x))
	}
	return out
}

// renamed is the new name of a variable; regions have none.
func (t *taken) renamed(name string) string {
	if v, is := t.names[name]; is {
		return v.Name
	}
	return name
}

func (t *taken) stmt(s api.Stmt) api.Stmt {
	// A call's Name is a function's, which may be a variable's, too.
	if s.Kind != api.StCall {
		s.Name = t.renamed(s.Name)
	}
	s.Names = each(s.Names, t.renamed)
	s.E, s.A, s.Args = t.expr(s.E), t.expr(s.A), each(s.Args, t.expr)
	s.Body, s.Else = each(s.Body, t.stmt), each(s.Else, t.stmt)
	return s
}

func (t *taken) expr(e api.Expr) api.Expr {
	e.Name = t.renamed(e.Name)
	e.Args = each(e.Args, t.expr)
	return e
}
