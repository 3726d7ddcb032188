package fold_test

import (
	"fmt"
	"slices"
	"testing"

	"muffle/api"
	"muffle/scope"
)

// spoils are ways in which a program may not be, by what scope tells of it: its last function has the words x and y, y among Vars, and a region k.
func spoils() map[api.Errno][]func(p *api.Program) {
	last := func(p *api.Program) *api.Func { return &p.Funcs[len(p.Funcs)-1] }
	with := func(l ...api.Stmt) func(p *api.Program) {
		return func(p *api.Program) { last(p).Body = append(last(p).Body, l...) }
	}
	deep := set("y", word(1))
	for range api.MaxNest {
		deep = when(word(1), deep)
	}
	deepest := word(1)
	for range api.MaxNest {
		deepest = op(api.OpNot, deepest)
	}
	return map[api.Errno][]func(p *api.Program){
		api.ErrMany: {
			func(p *api.Program) { *p = api.Program{} },
			func(p *api.Program) { p.Funcs = nil },
			func(p *api.Program) { p.Regions[0].Size = 0 },
			func(p *api.Program) { last(p).Vars[1].Size = api.MaxWords + 1 },
			func(p *api.Program) { last(p).Vars = slices.Repeat(last(p).Vars, 40) },
			with(slices.Repeat(stmts{set("y", word(1))}, api.MaxSize/2)...),
			with(when(word(0), slices.Repeat(stmts{set("y", word(1))}, api.MaxSize/2)...)),
		},
		api.ErrName: {
			func(p *api.Program) { p.Regions[0].Name = "for" },
			func(p *api.Program) { last(p).Name = "k" },
			func(p *api.Program) { last(p).Rets = []string{"z"} },
			with(set("z", word(1))),
			with(set("y", name("z"))),
			with(when(word(0), set("z", word(1)))),
			with(call("h", nil)),
		},
		api.ErrBounds: {
			func(p *api.Program) { p.Regions[0].Addr = 4 },
			func(p *api.Program) { p.Regions[0].Addr = api.StackLow },
		},
		api.ErrKind: {
			func(p *api.Program) { last(p).Params[0].Kind = api.VarStack; last(p).Params[0].Size = 1 },
			func(p *api.Program) { last(p).Vars[0].Secret = true },
			with(api.Stmt{}),
			with(set("k", word(1))),
			with(set("y", name("k"))),
			with(set("y", op(api.OpAdd, word(1)))),
			with(set("y", op(api.OpPick, word(1), word(1)))),
			with(unless(word(1), set("y", op(99, word(1))))),
			with(call("f", nil)),
		},
		api.ErrNest: {
			with(deep),
			with(set("y", deepest)),
		},
		api.ErrArg: {
			with(rounds("y", 0, 1)),
			with(rounds("x", 0, 1)),
			with(rounds("i", 2, 1)),
			with(rounds("i", 0, 2, rounds("i", 0, 2))),
			with(rounds("i", 0, 2, set("i", word(1)))),
		},
	}
}

// P12.1, P0.7: what scope tells of a program, ahead of all else: ahead of its calls, and its loops of a number of rounds.
func TestScopesErrors(t *testing.T) {
	for want, l := range spoils() {
		for i, spoil := range l {
			for k, text := range []string{
				"region k 0 2; fn f(x, p secret) -> y { var y; array r 2; var i; y = k[x]; if y { r[y] = p; } }",
				"region k 0 2; fn f(x, p secret) -> y { var y; array r 2; var i; var j; for j 0 9 { y = k[x]; } }",
				"region k 0 2; fn g() { } fn f(x, p secret) -> y { var y; array r 2; var i; y = k[x]; }",
				"region k 0 2; fn g() { var y; for y 0 1 { } } fn f(x, p secret) -> y { var y; array r 2; var i; var j; for j 3 3 { g(); } }",
			} {
				what := fmt.Sprint(want, ", by the spoil ", i, " of ", text)
				p := program(t, text)
				wantErrno(t, what+", not yet", p, map[bool]api.Errno{false: api.OK, true: api.ErrKind}[k > 0])
				spoil(&p)
				if errno := scope.May(p); errno != want {
					t.Fatal(what, errno)
				}
				wantErrno(t, what, p, want)
			}
		}
	}
}

// P12.1: a program that calls, or has more than one function, or has a loop of a number of rounds, wherever it stands.
func TestKinds(t *testing.T) {
	for _, text := range []string{
		"fn g() { } fn f() { }",
		"fn g() { } fn f() { g(); }",
		"fn g(x) -> x { } fn f() { var x; if 0 { x = g(x); } }",
		"fn f() { } fn g() { var x; x = 1; }",
		"fn f() { var i; for i 0 1 { } }",
		"fn f() { var i; for i 5 5 { } }",
		"fn f() { var i; var j; for i 0 65536 { for j 0 2 { } } }",
		"fn f(x) { var i; var j; while x { if x { x = 1; } else { if 0 { for i 0 2 { for j 0 0 { } } } } } }",
		"fn g() { var i; for i 0 2 { } } fn f() { }",
		"fn g() { } fn f() { var i; for i 0 2 { g(); } }",
	} {
		p := program(t, text)
		wantErrno(t, text, p, api.ErrKind)
	}
}

// P0.7, P0.8: what nests as deep as there may be anything.
func TestDeepest(t *testing.T) {
	const deep = 1 << 16
	e, s, loops := name("x0"), set("x0", word(1)), set("x0", word(1))
	for range deep {
		e, s, loops = op(api.OpNot, e), when(word(1), s), while(word(1), loops)
	}
	wantErrno(t, "the deepest expression", alone(1, set("x0", e)), api.ErrNest)
	wantErrno(t, "the deepest expression, in a way that is never taken", alone(1, when(word(0), set("x0", e))), api.ErrNest)
	wantErrno(t, "the deepest statement", alone(1, s), api.ErrNest)
	wantErrno(t, "the deepest loop", alone(1, loops), api.ErrNest)
}
