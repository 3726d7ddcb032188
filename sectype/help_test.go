package sectype_test

import (
	"fmt"
	"slices"
	"strings"
	"testing"

	"muffle/api"
	"muffle/parse"
	"muffle/scope"
	"muffle/sectype"
)

type (
	exprs = []api.Expr
	stmts = []api.Stmt
	words = map[string]bool
)

// What Check tells, as a text.
const (
	refused = "error 10"
	many    = "error 13"
)

func word(x uint64) api.Expr {
	return api.Expr{Op: api.OpConst, Word: x}
}

func name(s string) api.Expr {
	return api.Expr{Op: api.OpVar, Name: s}
}

func index(s string, at api.Expr) api.Expr {
	return api.Expr{Op: api.OpIndex, Name: s, Args: exprs{at}}
}

func op(o api.Op, args ...api.Expr) api.Expr {
	return api.Expr{Op: o, Args: args}
}

func set(s string, e api.Expr) api.Stmt {
	return api.Stmt{Kind: api.StSet, Name: s, E: e}
}

func put(s string, a, e api.Expr) api.Stmt {
	return api.Stmt{Kind: api.StPut, Name: s, A: a, E: e}
}

func call(s string, names []string, args ...api.Expr) api.Stmt {
	return api.Stmt{Kind: api.StCall, Name: s, Names: names, Args: args}
}

func reg(s string) api.Var {
	return api.Var{Name: s, Kind: api.VarReg}
}

// program is a text's, which may be.
func program(t *testing.T, text string) api.Program {
	t.Helper()
	p, fault := parse.Parse(text)
	if fault != (api.Fault{}) {
		t.Fatalf("%v in %s", fault, text)
	}
	if errno := scope.May(p); errno != api.OK {
		t.Fatalf("%v of %s", errno, text)
	}
	return p
}

func expr(t *testing.T, text string) api.Expr {
	t.Helper()
	e, fault := parse.Expr(text)
	if fault != (api.Fault{}) {
		t.Fatalf("%v in %s", fault, text)
	}
	return e
}

// mainOf is a program whose last function has that body: k is secret, n public; x, y and z are told.
// Of each kind of array there is a public one (r, s, out) and a secret one (rs, t, key); open takes a public word, hide a secret one, both takes both, and each answers what it is handed.
func mainOf(t *testing.T, body string) api.Program {
	t.Helper()
	return program(t, `
		region key 0 4 secret;
		region out 64 4;
		fn open(p) -> p { }
		fn hide(p secret) -> p { }
		fn both(p, q secret) -> q, p { }
		fn none() { }
		fn main(k secret, n) -> x, y, z {
			var x; var y; var z; var u; var v; var w; var i; var j;
			array r 4; array rs 4 secret; stack s 4; stack t 4 secret;
			`+body+`
		}`)
}

// told is what Check answers: a letter for each level, s or p; or the error.
func told(l []bool, errno api.Errno) string {
	s := ""
	for _, secret := range l {
		s += map[bool]string{true: "s", false: "p"}[secret]
	}
	if errno != api.OK {
		return errno.Error() + s
	}
	return s
}

// check is what Check tells of a program, which is left as it was.
func check(t *testing.T, what string, p api.Program) string {
	t.Helper()
	was := scope.Clone(p)
	l, errno := sectype.Check(p)
	if !scope.Same(p, was) {
		t.Errorf("%s: what was handed in is changed", what)
	}
	return told(l, errno)
}

func want(t *testing.T, what string, p api.Program, want string) {
	t.Helper()
	if got := check(t, what, p); got != want {
		t.Errorf("%s: %s, not %s", what, got, want)
	}
}

// wantBody wants the levels of x, y and z behind a body of mainOf's program, or the error.
func wantBody(t *testing.T, body, levels string) {
	t.Helper()
	want(t, body, mainOf(t, body), levels)
}

// wantText wants what Check tells of a text's program.
func wantText(t *testing.T, text, levels string) {
	t.Helper()
	want(t, text, program(t, text), levels)
}

// laidAhead is a program in whose last function so many statements more are gone through, ahead of all others: calls of functions that call functions.
func laidAhead(p api.Program, n int) api.Program {
	out := scope.Clone(p)
	var ahead []api.Func
	var calls stmts
	for i := range 16 {
		f := api.Func{Name: fmt.Sprint("ahead", i)}
		if i > 0 {
			of := ahead[i-1].Name
			f.Body = stmts{call(of, nil), call(of, nil)}
		}
		ahead = append(ahead, f)
	}
	// A call of the function i takes 2^(i+1) - 1.
	for i := 15; i >= 0; i-- {
		for ; n >= 2<<i-1; n -= 2<<i - 1 {
			calls = append(calls, call(ahead[i].Name, nil))
		}
	}
	last := &out.Funcs[len(out.Funcs)-1]
	last.Body = append(calls, last.Body...)
	out.Funcs = append(ahead, out.Funcs...)
	return out
}

// wantBegun wants that just so many statements of a program are gone through: where they are as many as may be, and one more.
func wantBegun(t *testing.T, what string, p api.Program, begun int) {
	t.Helper()
	without := check(t, what, p)
	want(t, what+", all that may be", laidAhead(p, api.MaxSize-begun), without)
	want(t, what+", and one more", laidAhead(p, api.MaxSize-begun+1), many)
}

// bodyBegun is wantBegun of a body of mainOf's program, whose levels are wanted, too.
func bodyBegun(t *testing.T, body, levels string, begun int) {
	t.Helper()
	p := mainOf(t, body)
	want(t, body, p, levels)
	wantBegun(t, body, p, begun)
}

// spoils are ways in which a program of twoFuncs may not be, by what scope tells of it.
func spoils() map[api.Errno][]func(p *api.Program) {
	last := func(p *api.Program) *api.Func { return &p.Funcs[len(p.Funcs)-1] }
	with := func(l ...api.Stmt) func(p *api.Program) {
		return func(p *api.Program) { last(p).Body = append(last(p).Body, l...) }
	}
	deep := set("y", word(1))
	for range api.MaxNest {
		deep = api.Stmt{Kind: api.StIf, E: word(1), Body: stmts{deep}}
	}
	return map[api.Errno][]func(p *api.Program){
		api.ErrMany: {
			func(p *api.Program) { *p = api.Program{} },
			func(p *api.Program) { p.Funcs = nil },
			func(p *api.Program) { p.Regions[0].Size = 0 },
			func(p *api.Program) { last(p).Vars[0] = api.Var{Name: "y", Kind: api.VarArray} },
			with(slices.Repeat(stmts{set("y", word(1))}, api.MaxSize/2)...),
		},
		api.ErrName: {
			func(p *api.Program) { p.Regions[0].Name = "for" },
			func(p *api.Program) { p.Funcs[0].Name = "f" },
			func(p *api.Program) { last(p).Rets = []string{"z"} },
			with(set("z", word(1))),
			with(call("h", nil)),
		},
		api.ErrBounds: {
			func(p *api.Program) { p.Regions[0].Addr = 4 },
			func(p *api.Program) { p.Regions[0].Addr = api.StackLow },
		},
		api.ErrKind: {
			func(p *api.Program) { last(p).Params[0].Kind = api.VarStack; last(p).Params[0].Size = 1 },
			func(p *api.Program) { last(p).Vars[0].Secret = true },
			with(api.Stmt{}),
			with(set("k", word(1))),
			with(set("y", name("k"))),
			with(call("f", nil)),
		},
		api.ErrNest: {
			with(deep),
		},
		api.ErrArg: {
			with(call("g", nil)),
			with(api.Stmt{Kind: api.StFor, Name: "y"}),
			with(api.Stmt{Kind: api.StFor, Name: "i", Low: 2, High: 1}),
		},
	}
}

func twoFuncs(t *testing.T) api.Program {
	t.Helper()
	return program(t, "region k 0 2; fn g(x) { } fn f(x, p secret) -> y { var y; var i; y = k[x]; }")
}

// wantAlike wants what Alike answers of two inputs, whichever is the first one, and that it leaves them as they were.
func wantAlike(t *testing.T, what string, p api.Program, a, b api.Input, want bool) {
	t.Helper()
	wasA, wasB := tellInput(a), tellInput(b)
	if got, turned := sectype.Alike(p, a, b), sectype.Alike(p, b, a); got != want || turned != want {
		t.Errorf("%s: %v, %v; not %v", what, got, turned, want)
	}
	if tellInput(a) != wasA || tellInput(b) != wasB {
		t.Errorf("%s: what was handed in is changed", what)
	}
}

func tellInput(in api.Input) string {
	return fmt.Sprint(in.Args, in.Regions)
}

// wordsOf are words with levels, told as names, the secret ones with a '!' behind.
func wordsOf(text string) words {
	w := words{}
	for _, s := range strings.Fields(text) {
		bare, secret := strings.CutSuffix(s, "!")
		w[bare] = secret
	}
	return w
}
