package unroll_test

import (
	"fmt"
	"slices"
	"testing"

	"muffle/api"
	"muffle/scope"
	"muffle/unroll"
)

// oneFunc is a program that may be, with what spoils want.
func oneFunc(t *testing.T) api.Program {
	t.Helper()
	return program(t, "region k 0 2; fn f(x, p secret) -> y { var y; var i; var j; array r 2; y = k[x]; for i 0 2 { r[i] = p; } }")
}

// spoils are ways in which a program of oneFunc may not be, by what scope tells of it.
func spoils() map[api.Errno][]func(p *api.Program) {
	last := func(p *api.Program) *api.Func { return &p.Funcs[len(p.Funcs)-1] }
	with := func(l ...api.Stmt) func(p *api.Program) {
		return func(p *api.Program) { last(p).Body = append(last(p).Body, l...) }
	}
	deep := set("y", word(1))
	for range api.MaxNest {
		deep = when(word(1), deep)
	}
	deepest := word(1)
	for range api.MaxNest {
		deepest = op(api.OpNot, deepest)
	}
	return map[api.Errno][]func(p *api.Program){
		api.ErrMany: {
			func(p *api.Program) { *p = api.Program{} },
			func(p *api.Program) { p.Funcs = nil },
			func(p *api.Program) { p.Regions[0].Size = 0 },
			func(p *api.Program) { last(p).Vars[3].Size = api.MaxWords + 1 },
			func(p *api.Program) { last(p).Vars = slices.Repeat(last(p).Vars, 20) },
			with(slices.Repeat(stmts{set("y", word(1))}, api.MaxSize/2)...),
		},
		api.ErrName: {
			func(p *api.Program) { p.Regions[0].Name = "for" },
			func(p *api.Program) { last(p).Name = "k" },
			func(p *api.Program) { last(p).Rets = []string{"z"} },
			with(set("z", word(1))),
			with(rounds("z", 0, 1)),
			with(call("h", nil)),
		},
		api.ErrBounds: {
			func(p *api.Program) { p.Regions[0].Addr = 4 },
			func(p *api.Program) { p.Regions[0].Addr = api.StackLow },
		},
		api.ErrKind: {
			func(p *api.Program) { last(p).Params[0].Kind = api.VarStack; last(p).Params[0].Size = 1 },
			func(p *api.Program) { last(p).Vars[0].Secret = true },
			with(api.Stmt{}),
			with(set("k", word(1))),
			with(set("y", name("k"))),
			with(rounds("r", 0, 1)),
			with(api.Stmt{Kind: api.StFor, Name: "i", High: 1, E: word(1)}),
			with(call("f", nil)),
		},
		api.ErrNest: {
			with(deep),
			with(set("y", deepest)),
		},
		api.ErrArg: {
			with(rounds("y", 0, 1)),
			with(rounds("x", 0, 1)),
			with(rounds("i", 2, 1)),
			with(rounds("i", 0, api.MaxSize+1)),
			with(rounds("i", 0, 1<<64-1)),
			with(rounds("i", 0, 2, rounds("i", 0, 2))),
			with(set("i", word(1))),
			with(rounds("i", 0, 2, set("i", word(1)))),
			with(rounds("i", 0, 2, rounds("j", 0, 2, set("i", word(1))))),
		},
	}
}

// wantNothing wants that error of a program from both of the functions that tell one, and nothing beside it.
func wantNothing(t *testing.T, what string, p api.Program, want api.Errno) {
	t.Helper()
	wantErrno(t, what, p, want)
	if n, errno := unroll.Rounds(p); errno != want || n != 0 {
		t.Errorf("%s: Rounds: %d, %v, not %v", what, n, errno, want)
	}
}

// many are loops with too many rounds, and a result that is too large.
func many() stmts {
	return stmts{rounds("i", 0, api.MaxSize, rounds("j", 0, api.MaxSize, set("r0", word(1)))), set("r0", word(1))}
}

// P11.1, P11.2, P0.7: what scope tells of a program, ahead of all else.
func TestScopesErrors(t *testing.T) {
	for want, l := range spoils() {
		for i, spoil := range l {
			what := fmt.Sprint(want, ", by the spoil ", i)
			p := oneFunc(t)
			spoil(&p)
			if errno := scope.May(p); errno != want {
				t.Fatal(what, errno)
			}
			wantNothing(t, what, p, want)
			if len(p.Funcs) == 0 {
				continue
			}
			// Also where there are too many rounds, ahead of it, in a function that is called, too.
			p = oneFunc(t)
			f := &p.Funcs[0]
			f.Vars, f.Body = append(f.Vars, reg("r0")), append(many(), f.Body...)
			wantRounds(t, what+", not yet", p, api.MaxSize+1)
			wantErrno(t, what+", not yet", p, api.ErrMany)
			p.Funcs = append([]api.Func{{Name: "g", Vars: []api.Var{reg("i"), reg("j"), reg("r0")}, Body: many()}}, p.Funcs...)
			p.Funcs[1].Body = append(p.Funcs[1].Body, call("g", nil))
			wantRounds(t, what+", with a call, not yet", p, api.MaxSize+1)
			wantErrno(t, what+", with a call, not yet", p, api.ErrKind)
			spoil(&p)
			wantNothing(t, what+", with a call", p, want)
		}
	}
}

// P11.1: a program that calls, or has more than one function, is ErrKind, ahead of ErrMany.
func TestCalls(t *testing.T) {
	for _, c := range []struct {
		text   string
		rounds int
	}{
		{"fn g() { } fn f() { }", 0},
		{"fn g() { } fn f() { g(); }", 0},
		{"fn g(x) -> x { } fn f() { var i; var x; for i 0 3 { if x { x = g(i); } } }", 3},
		{"fn g() { var i; for i 0 65536 { } for i 0 1 { } } fn f() { }", 0},
		{"fn g() { } fn f() { var i; for i 0 65536 { } for i 0 1 { } }", api.MaxSize + 1},
		{"fn g() { } fn f() { var i; var x; for i 0 65536 { x = i; } g(); }", api.MaxSize},
		{"fn g() { } fn h() { } fn f() { var i; var j; for i 0 65536 { for j 0 65536 { } } }", api.MaxSize + 1},
	} {
		p := program(t, c.text)
		wantErrno(t, c.text, p, api.ErrKind)
		wantRounds(t, c.text, p, c.rounds)
		// Without the others nothing of it is ErrKind.
		p.Funcs = p.Funcs[len(p.Funcs)-1:]
		want := api.OK
		switch {
		case scope.May(p) != api.OK:
			want = scope.May(p)
		case c.rounds >= api.MaxSize:
			want = api.ErrMany
		}
		wantErrno(t, c.text+", alone", p, want)
	}
}
