package inline_test

import (
	"fmt"
	"slices"

	"muffle/api"
	"muffle/scope"
)

// model is the chapter said again, without a thought of how large it grows: what it makes must be small.
type model struct {
	p     api.Program
	names map[string]string // by the function's name, a point, and the variable's
	vars  []api.Var
	size  int
	calls int
}

func modelOf(p api.Program) *model {
	m := &model{p: p, names: map[string]string{}}
	last := p.Funcs[len(p.Funcs)-1]
	taken := []string{}
	for _, r := range p.Regions {
		taken = append(taken, r.Name)
	}
	for _, v := range slices.Concat(last.Params, last.Vars) {
		taken = append(taken, v.Name)
		m.names[last.Name+"."+v.Name] = v.Name
	}
	k := 0
	for _, f := range p.Funcs[:len(p.Funcs)-1] {
		if !m.reaches(last.Name, f.Name) {
			continue
		}
		for i, v := range slices.Concat(f.Params, f.Vars) {
			for slices.Contains(taken, fmt.Sprint("v", k)) {
				k++
			}
			fresh := api.Var{Name: fmt.Sprint("v", k), Kind: v.Kind, Size: v.Size, Secret: v.Secret && i >= len(f.Params)}
			k++
			m.names[f.Name+"."+v.Name] = fresh.Name
			m.vars = append(m.vars, fresh)
		}
	}
	return m
}

func (m *model) function(name string) *api.Func {
	for i := range m.p.Funcs {
		if m.p.Funcs[i].Name == name {
			return &m.p.Funcs[i]
		}
	}
	return nil
}

// reaches tells whether the one function calls the other one, or one that does.
func (m *model) reaches(from, to string) bool {
	var in func(l stmts) bool
	in = func(l stmts) bool {
		return slices.ContainsFunc(l, func(s api.Stmt) bool {
			return s.Kind == api.StCall && (s.Name == to || m.reaches(s.Name, to)) || in(s.Body) || in(s.Else)
		})
	}
	return in(m.function(from).Body)
}

func (m *model) in(f *api.Func, name string) string {
	if fresh, is := m.names[f.Name+"."+name]; is {
		return fresh
	}
	return name
}

func (m *model) expr(f *api.Func, e api.Expr) api.Expr {
	out := api.Expr{Op: e.Op, Word: e.Word}
	if e.Op == api.OpVar || e.Op == api.OpIndex {
		out.Name = m.in(f, e.Name)
	}
	for _, arg := range e.Args {
		out.Args = append(out.Args, m.expr(f, arg))
	}
	return out
}

// onStack tells whether places of that name can be seen in the function.
func (m *model) onStack(f *api.Func, name string) bool {
	for _, v := range slices.Concat(f.Params, f.Vars) {
		if v.Name == name {
			return v.Kind == api.VarStack
		}
	}
	return slices.ContainsFunc(m.p.Regions, func(r api.Region) bool { return r.Name == name })
}

func (m *model) places(f *api.Func, l ...api.Expr) int {
	n := 0
	for _, e := range l {
		if e.Op == api.OpIndex && m.onStack(f, e.Name) {
			n++
		}
		n += m.places(f, e.Args...)
	}
	return n
}

func (m *model) stmts(f *api.Func, l stmts) (stmts, []api.Term) {
	var out stmts
	var terms []api.Term
	for _, s := range l {
		if s.Kind == api.StCall {
			laid, term := m.call(f, s)
			out, terms = append(out, laid...), append(terms, term)
			continue
		}
		m.size++
		x, term := api.Stmt{Kind: s.Kind, Name: s.Name, Low: s.Low, High: s.High}, api.Term{Kind: api.TermSame}
		body, within := m.stmts(f, s.Body)
		other, beside := m.stmts(f, s.Else)
		x.Body, x.Else = body, other
		switch s.Kind {
		case api.StSet:
			x.Name, x.E = m.in(f, s.Name), m.expr(f, s.E)
		case api.StPut:
			x.Name, x.A, x.E = m.in(f, s.Name), m.expr(f, s.A), m.expr(f, s.E)
		case api.StIf:
			x.E, term = m.expr(f, s.E), api.Term{Kind: api.TermIf, Subs: [][]api.Term{within, beside}}
		case api.StWhile:
			x.E, term = m.expr(f, s.E), api.Term{Kind: api.TermLoop, Subs: [][]api.Term{within}}
		case api.StFor:
			x.Name, term = m.in(f, s.Name), api.Term{Kind: api.TermEach, Subs: [][]api.Term{within}}
		}
		out, terms = append(out, x), append(terms, term)
	}
	return out, terms
}

func (m *model) call(f *api.Func, s api.Stmt) (stmts, api.Term) {
	m.calls++
	g := m.function(s.Name)
	var out stmts
	var lines [][]api.Pick
	for i, v := range g.Params {
		from, to := m.places(f, s.Args[:i]...), m.places(f, s.Args[:i+1]...)
		line := []api.Pick{}
		for item := from; item < to; item++ {
			line = append(line, api.Pick{Kind: api.PickItem, Item: item})
		}
		out, lines = append(out, set(m.in(g, v.Name), m.expr(f, s.Args[i]))), append(lines, line)
	}
	for _, v := range g.Vars {
		if v.Kind == api.VarReg && !counts(v.Name, g.Body) {
			out, lines = append(out, set(m.in(g, v.Name), word(0))), append(lines, nil)
		}
		for i := range v.Size {
			var line []api.Pick
			if v.Kind == api.VarStack {
				line = []api.Pick{{Kind: api.PickWord, Word: uint64(i)}}
			}
			out, lines = append(out, api.Stmt{Kind: api.StPut, Name: m.in(g, v.Name), A: word(uint64(i)), E: word(0)}), append(lines, line)
		}
	}
	m.size += len(out) + len(s.Names)
	body, within := m.stmts(g, g.Body)
	out = append(out, body...)
	var back []api.Term
	for i, to := range s.Names {
		out = append(out, set(m.in(f, to), name(m.in(g, g.Rets[i]))))
		back = append(back, api.Term{Kind: api.TermLines, Lines: [][]api.Pick{{}}})
	}
	return out, api.Term{Kind: api.TermCall, Lines: lines, Subs: [][]api.Term{within, back}}
}

func counts(name string, l stmts) bool {
	return slices.ContainsFunc(l, func(s api.Stmt) bool {
		return s.Kind == api.StFor && s.Name == name || counts(name, s.Body) || counts(name, s.Else)
	})
}

// program is what Program should answer of what may be.
func (m *model) program() (api.Program, []api.Term, api.Errno) {
	last := m.p.Funcs[len(m.p.Funcs)-1]
	body, terms := m.stmts(&last, last.Body)
	if m.size > api.MaxSize || m.calls > api.MaxSize {
		return api.Program{}, nil, api.ErrMany
	}
	out := api.Func{Name: last.Name, Params: last.Params, Vars: slices.Concat(last.Vars, m.vars), Rets: last.Rets, Body: body}
	q := api.Program{Regions: m.p.Regions, Funcs: []api.Func{out}}
	if errno := scope.May(q); errno != api.OK {
		return api.Program{}, nil, errno
	}
	return q, terms, api.OK
}
