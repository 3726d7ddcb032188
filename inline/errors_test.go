package inline_test

import (
	"fmt"
	"slices"
	"testing"

	"muffle/api"
	"muffle/inline"
	"muffle/scope"
)

// twoFuncs is a program that may be, with what spoils want.
func twoFuncs(t *testing.T) api.Program {
	t.Helper()
	return program(t, "region k 0 2; fn g(x) { } fn f(x, p secret) -> y { var y; var i; y = k[x]; g(y); }")
}

// spoils are ways in which a program of twoFuncs may not be, by what scope tells of it.
func spoils() map[api.Errno][]func(p *api.Program) {
	last := func(p *api.Program) *api.Func { return &p.Funcs[len(p.Funcs)-1] }
	with := func(l ...api.Stmt) func(p *api.Program) {
		return func(p *api.Program) { last(p).Body = append(last(p).Body, l...) }
	}
	deep := set("y", word(1))
	for range api.MaxNest {
		deep = when(word(1), deep)
	}
	return map[api.Errno][]func(p *api.Program){
		api.ErrMany: {
			func(p *api.Program) { *p = api.Program{} },
			func(p *api.Program) { p.Funcs = nil },
			func(p *api.Program) { p.Regions[0].Size = 0 },
			func(p *api.Program) { last(p).Vars[0] = api.Var{Name: "y", Kind: api.VarArray} },
			with(slices.Repeat(stmts{set("y", word(1))}, api.MaxSize/2)...),
		},
		api.ErrName: {
			func(p *api.Program) { p.Regions[0].Name = "for" },
			func(p *api.Program) { p.Funcs[0].Name = "f" },
			func(p *api.Program) { last(p).Rets = []string{"z"} },
			with(set("z", word(1))),
			with(call("h", nil)),
		},
		api.ErrBounds: {
			func(p *api.Program) { p.Regions[0].Addr = 4 },
			func(p *api.Program) { p.Regions[0].Addr = api.StackLow },
		},
		api.ErrKind: {
			func(p *api.Program) { last(p).Params[0].Kind = api.VarStack; last(p).Params[0].Size = 1 },
			func(p *api.Program) { last(p).Vars[0].Secret = true },
			func(p *api.Program) { p.Funcs[0].Body = stmts{set("k", word(1))} },
			with(api.Stmt{}),
			with(set("k", word(1))),
			with(set("y", name("k"))),
			with(call("f", nil)),
			func(p *api.Program) { p.Funcs[0].Body = stmts{call("f", []string{"x"}, word(1), word(2))} },
			func(p *api.Program) { p.Funcs[0].Body = stmts{call("g", nil, word(1))} },
		},
		api.ErrNest: {
			with(deep),
		},
		api.ErrArg: {
			with(call("g", nil)),
			with(call("g", []string{"y"}, word(1))),
			with(rounds("y", 0, 1)),
			with(rounds("i", 2, 1)),
		},
	}
}

// wantNothing wants that error of a program from each of the functions, and nothing beside it; of Places also where the function's number is none.
func wantNothing(t *testing.T, what string, p api.Program, want api.Errno) {
	t.Helper()
	wantErrno(t, what, p, want)
	if l, errno := inline.Reached(p); errno != want || len(l) > 0 {
		t.Errorf("%s: Reached: %v, %v, not %v", what, l, errno, want)
	}
	if l, errno := inline.Names(p); errno != want || len(l) > 0 {
		t.Errorf("%s: Names: %v, %v, not %v", what, l, errno, want)
	}
	if n, errno := inline.Calls(p); errno != want || n != 0 {
		t.Errorf("%s: Calls: %v, %v, not %v", what, n, errno, want)
	}
	for _, f := range []int{-1, 0, 1, 2, api.MaxFuncs} {
		if n, errno := inline.Places(p, f, index("k", word(0))); errno != want || n != 0 {
			t.Errorf("%s: Places: %v, %v, not %v", what, n, errno, want)
		}
	}
}

// P10.1, P10.2, P0.7: what scope tells of a program, ahead of all else.
func TestScopesErrors(t *testing.T) {
	for want, l := range spoils() {
		for i, spoil := range l {
			p := twoFuncs(t)
			spoil(&p)
			if errno := scope.May(p); errno != want {
				t.Fatal(i, errno, want)
			}
			what := fmt.Sprint(want, ", by the spoil ", i)
			wantNothing(t, what, p, want)
			// Also where there are too many calls, and too many variables.
			if len(p.Funcs) == 2 {
				wantNothing(t, what+", with many calls", laidAhead(p, api.MaxSize), want)
				p.Funcs[0].Vars = nil
				for i := range api.MaxVars - 1 {
					p.Funcs[0].Vars = append(p.Funcs[0].Vars, reg(fmt.Sprint("w", i)))
				}
				wantNothing(t, what+", with many variables", p, want)
			}
		}
	}
}

// P10.1: what is wrong with a function that is not reached is told, too.
func TestWrongNotReached(t *testing.T) {
	p := program(t, "fn g() { } fn f() { }")
	p.Funcs[0].Body = stmts{set("x", word(1))}
	wantNothing(t, "a name that is none's", p, api.ErrName)
}

// P10.2: Places of a function that is none.
func TestPlacesOfNone(t *testing.T) {
	p := twoFuncs(t)
	for _, f := range []int{-1, -1 << 63, 2, 3, api.MaxFuncs, 1<<63 - 1} {
		if n, errno := inline.Places(p, f, index("k", word(0))); errno != api.ErrArg || n != 0 {
			t.Error(f, n, errno)
		}
	}
	wantPlaces(t, "the first one", p, 0, index("k", word(0)), 1)
	wantPlaces(t, "the last one", p, 1, index("k", word(0)), 1)
}
