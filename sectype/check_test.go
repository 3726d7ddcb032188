package sectype_test

import (
	"fmt"
	"strings"
	"testing"

	"muffle/api"
	"muffle/scope"
	"muffle/sectype"
)

// P9.1: the chapter's examples, and the document's.
func TestExamples(t *testing.T) {
	wantText(t, "fn f(x secret) -> y { var y; y = (x + 1); }", "s")
	wantText(t, "fn f(x secret) { if x { } }", refused)
	wantText(t, "fn f(x secret) { stack s 2; s[x] = 1; }", refused)
	wantText(t, "fn f(p) { } fn g(x secret) { f(x); }", refused)
	wantText(t, "fn f(x secret) { var y; y = x; y = 0; while y { y = (y - 1); } }", "")
	wantText(t, "fn f(x secret) { var i; var z; i = 0; while (i < 3) { i = (i + z); z = x; } }", refused)
	wantText(t, "fn main(x) -> x { }", "p")
	wantText(t, "fn main(x secret) -> x { x = pick(x, 1, 2); }", "s")
	wantText(t, "fn main(x) { stack t 4; t[x] = 1; }", "")
	wantText(t, "region key 0 4 secret; fn main() -> x { var x; var i; array r 4 secret; for i 0 4 { r[i] = key[i]; } x = r[0]; }", "s")
	wantText(t, "region key 0 4 secret; fn main() -> x { var x; var i; array r 4; for i 0 4 { r[i] = key[i]; } x = r[0]; }", refused)
}

// P9.1: at the beginning Params are as Secret says, all others public.
func TestBeginning(t *testing.T) {
	wantText(t, "fn f(a, b secret, c secret, d) -> a, b, c, d, e, i { var e; var i; }", "pssppp")
	wantText(t, "fn f(a secret) -> a { }", "s")
	wantText(t, "fn f(a) -> a { }", "p")
	// Those of another function are as that one says, whatever they are called.
	wantText(t, "fn f(a secret, x) -> x, y { var y; } fn g(a, x secret) -> a, x, y, z { var y; var z; y, z = f(a, a); }", "pspp")
	wantText(t, "fn f(a) { if a { } } fn g(a secret) -> a { f(0); }", "s")
}

// P9.1: the levels are those of the Rets, in their order.
func TestInOrder(t *testing.T) {
	for _, c := range [][2]string{
		{"x, y, z", "sps"}, {"z, y, x", "sps"}, {"y, x, z", "pss"}, {"x, z, y", "ssp"}, {"y", "p"}, {"z", "s"}, {"", ""}, {"k, y, n", "spp"}, {"n, k", "ps"},
	} {
		text := "fn f(k secret, n) -> " + c[0] + " { var x; var y; var z; x = k; y = n; z = -k; }"
		wantText(t, strings.Replace(text, "->  {", "{", 1), c[1])
	}
}

// P9.1: a word is what it was set to last.
func TestSet(t *testing.T) {
	for _, c := range [][2]string{
		{"", "ppp"},
		{"x = 5;", "ppp"},
		{"x = n;", "ppp"},
		{"x = k;", "spp"},
		{"x = k; x = n;", "ppp"},
		{"x = n; x = k;", "spp"},
		{"x = k; y = x; x = 0; z = y;", "pss"},
		{"x = k; x = (x - x);", "spp"},
		{"x = k; y = x; z = y; x = 1; y = 2; z = 3;", "ppp"},
		{"k = 0; x = k;", "ppp"},
		{"n = k; x = n;", "spp"},
		{"n = k; n = 0; x = n;", "ppp"},
		{"y = x; x = k;", "spp"},
		{"x = k; x = x; y = y;", "spp"},
		{"if n { }", "ppp"},
		{"if k { }", refused},
		{"k = n; if k { }", "ppp"},
		{"n = k; if n { }", refused},
		{"x = k; x = 1; if x { }", "ppp"},
		{"x = (k * 0); if x { }", refused},
	} {
		wantBody(t, c[0], c[1])
	}
}

// P9.1: each operation is secret, if an argument is, whichever.
func TestOperations(t *testing.T) {
	for o := api.OpNot; o <= api.OpPick; o++ {
		args := 2
		switch o {
		case api.OpIndex:
			continue
		case api.OpNot, api.OpNeg:
			args = 1
		case api.OpPick:
			args = 3
		}
		for at := -1; at < args; at++ {
			levels := map[bool]string{true: "spp", false: "ppp"}[at >= 0]
			for _, kind := range []api.Expr{name("k"), index("rs", name("n")), index("t", word(1)), index("key", word(0)), op(api.OpNeg, op(api.OpNot, name("k")))} {
				e := op(o)
				for i := range args {
					if i == at {
						e.Args = append(e.Args, kind)
					} else {
						e.Args = append(e.Args, []api.Expr{name("n"), word(7), index("s", word(1))}[i])
					}
				}
				p := mainOf(t, "")
				last := &p.Funcs[len(p.Funcs)-1]
				last.Body = stmts{set("x", e)}
				want(t, fmt.Sprint("the operation ", o, ", secret at ", at), p, levels)
				last.Body = stmts{{Kind: api.StIf, E: e}}
				want(t, fmt.Sprint("asked: the operation ", o, ", secret at ", at), p, map[bool]string{true: refused, false: "ppp"}[at >= 0])
			}
		}
	}
}

// P9.1: what an array, or a region, has is as secret as that, everywhere; its place must be public.
func TestArrays(t *testing.T) {
	for _, kind := range [][2]string{{"r", "rs"}, {"s", "t"}, {"out", "key"}} {
		public, secret := kind[0], kind[1]
		for _, c := range [][2]string{
			{"x = PUBLIC[0];", "ppp"},
			{"x = PUBLIC[n];", "ppp"},
			{"x = SECRET[0];", "spp"},
			{"x = SECRET[n];", "spp"},
			{"x = PUBLIC[k];", refused},
			{"x = SECRET[k];", refused},
			{"x = PUBLIC[(k - k)];", refused},
			{"x = PUBLIC[PUBLIC[n]];", "ppp"},
			{"x = PUBLIC[SECRET[n]];", refused},
			{"x = SECRET[PUBLIC[n]];", "spp"},
			{"x = SECRET[SECRET[0]];", refused},
			{"x = PUBLIC[PUBLIC[PUBLIC[k]]];", refused},
			{"x = (n + (1 + PUBLIC[k]));", refused},
			{"x = SECRET[pick(n, n, k)];", refused},
			{"x = k; y = PUBLIC[x];", refused},
			{"x = k; x = 1; y = PUBLIC[x];", "ppp"},
			{"x = PUBLIC[9]; y = SECRET[9];", "psp"},
			{"PUBLIC[0] = n;", "ppp"},
			{"PUBLIC[n] = 1;", "ppp"},
			{"PUBLIC[0] = k;", refused},
			{"PUBLIC[k] = 0;", refused},
			{"PUBLIC[k] = k;", refused},
			{"PUBLIC[0] = SECRET[0];", refused},
			{"PUBLIC[SECRET[0]] = 1;", refused},
			{"PUBLIC[0] = PUBLIC[k];", refused},
			{"PUBLIC[PUBLIC[n]] = PUBLIC[0];", "ppp"},
			{"SECRET[0] = n;", "ppp"},
			{"SECRET[n] = k;", "ppp"},
			{"SECRET[k] = n;", refused},
			{"SECRET[k] = k;", refused},
			{"SECRET[(n + k)] = 1;", refused},
			{"SECRET[0] = SECRET[1];", "ppp"},
			{"SECRET[SECRET[0]] = 1;", refused},
			{"SECRET[0] = SECRET[k];", refused},
			{"SECRET[0] = PUBLIC[k];", refused},
			{"SECRET[0] = 0; x = SECRET[0];", "spp"},
			{"SECRET[0] = n; SECRET[1] = n; SECRET[2] = n; SECRET[3] = n; x = SECRET[0];", "spp"},
			{"PUBLIC[0] = n; x = PUBLIC[0]; if PUBLIC[0] { }", "ppp"},
			{"if SECRET[0] { }", refused},
			{"while PUBLIC[0] { } while SECRET[0] { }", refused},
			{"if PUBLIC[k] { }", refused},
			{"x = open(PUBLIC[0]); y = hide(SECRET[0]);", "psp"},
			{"x = open(SECRET[0]);", refused},
			{"x = hide(PUBLIC[k]);", refused},
		} {
			wantBody(t, strings.NewReplacer("PUBLIC", public, "SECRET", secret).Replace(c[0]), c[1])
		}
	}
	// Of each function an array's level is its own; a region's is the same one in all.
	wantText(t, "fn f() -> x { var x; array a 2 secret; x = a[0]; } fn g() -> x, y { var x; var y; array a 2; x = f(); y = a[0]; }", "sp")
	wantText(t, "fn f() -> x { var x; stack a 2; x = a[0]; } fn g() -> x, y { var x; var y; stack a 2 secret; x = f(); y = a[0]; }", "ps")
	wantText(t, "region a 0 2 secret; fn f() -> x { var x; x = a[0]; } fn g() -> x, y { var x; var y; x = f(); y = a[0]; }", "ss")
	wantText(t, "region a 0 2 secret; fn f(x secret) { a[0] = x; } fn g(x secret) { f(x); a[1] = x; }", "")
	wantText(t, "region a 0 2; fn f(x secret) { a[0] = x; } fn g() { f(1); }", refused)
}

// P9.1: functions may share their lists in memory, and mean other arrays by the same name.
func TestSharedLists(t *testing.T) {
	for _, c := range []struct {
		first, second bool
		levels        string
	}{{false, false, "pp"}, {false, true, "sp"}, {true, false, "ps"}, {true, true, "ss"}} {
		array := func(secret bool) api.Var { return api.Var{Name: "a", Kind: api.VarArray, Size: 2, Secret: secret} }
		body := stmts{set("x", index("a", word(0)))}
		f := api.Func{Name: "f", Vars: []api.Var{reg("x"), array(c.first)}, Rets: []string{"x"}, Body: body}
		g := api.Func{Name: "g", Vars: []api.Var{reg("x"), reg("y"), array(c.second)}, Rets: []string{"x", "y"}, Body: body}
		h := api.Func{Name: "h", Vars: []api.Var{reg("x"), reg("y")}, Rets: []string{"x", "y"}, Body: stmts{call("g", []string{"x", "y"}), call("f", []string{"y"})}}
		want(t, "the same body", api.Program{Funcs: []api.Func{f, g, h}}, c.levels)
		h.Body = stmts{call("f", []string{"y"}), call("g", []string{"x", "u"}), call("g", []string{"x", "u"})}
		h.Vars = append(h.Vars, reg("u"))
		want(t, "the same body, the other way round", api.Program{Funcs: []api.Func{f, g, h}}, c.levels)
	}
}

// P9.1: behind a branch a word is secret, if it is behind one of its ways; the condition must be public.
func TestIf(t *testing.T) {
	for _, c := range [][2]string{
		{"if n { x = k; }", "spp"},
		{"if n { } else { x = k; }", "spp"},
		{"if n { x = k; } else { x = k; }", "spp"},
		{"if n { x = k; } else { y = k; }", "ssp"},
		{"if n { x = k; } else { x = 1; }", "spp"},
		{"if n { x = 1; } else { x = k; }", "spp"},
		{"x = k; if n { x = 1; }", "spp"},
		{"x = k; if n { } else { x = 1; }", "spp"},
		{"x = k; if n { x = 1; } else { x = 2; }", "ppp"},
		{"x = k; if n { x = 1; } else { y = x; x = 3; }", "psp"},
		{"if n { x = k; x = 1; } else { }", "ppp"},
		{"if n { } else { x = k; x = 1; }", "ppp"},
		{"if n { x = k; } if x { }", refused},
		{"if n { } else { x = k; } if x { }", refused},
		{"if n { x = k; } else { if x { } }", "spp"},
		{"x = k; if n { x = 0; } else { if x { } }", refused},
		{"x = k; if n { x = 0; if x { } }", "spp"},
		{"x = k; if n { if x { } }", refused},
		{"if n { if n { x = k; } else { y = k; } } else { if n { z = k; } }", "sss"},
		{"if n { if n { x = k; } x = 1; } else { y = k; if n { y = 1; } else { y = 2; } }", "ppp"},
		{"x = k; y = k; if n { if n { x = 0; } else { x = 1; } } else { x = 2; if n { y = 3; } }", "psp"},
		{"if n { if n { if n { } else { z = k; } } }", "pps"},
		{"if n { if k { } }", refused},
		{"if n { } else { if k { } }", refused},
		{"if 1 { } else { x = k; if x { } }", refused},
		{"if 0 { x = k; }", "spp"},
		{"if (n + 1) { r[0] = k; }", refused},
		{"if n { } else { r[0] = k; }", refused},
		{"if (k == k) { }", refused},
		{"if n { x = k; k = 0; } else { y = k; } z = k;", "sss"},
		{"if n { x = k; k = 0; } else { y = k; k = 1; } z = k;", "ssp"},
	} {
		wantBody(t, c[0], c[1])
	}
}

// P9.1: a call's Args go to Params of either level; its answers are as secret as what the function answers.
func TestCall(t *testing.T) {
	for _, c := range [][2]string{
		{"x = open(n);", "ppp"},
		{"x = open(k);", refused},
		{"x = hide(n);", "spp"},
		{"x = hide(k);", "spp"},
		{"x = hide(1); x = open(1);", "ppp"},
		{"x = open((n + (k * 0)));", refused},
		{"x, y = both(n, k);", "spp"},
		{"x, y = both(n, n);", "spp"},
		{"y, x = both(1, 2);", "psp"},
		{"x, y = both(k, n);", refused},
		{"x, y = both(k, k);", refused},
		{"x = k; x = open(n);", "ppp"},
		{"x = k; y = k; y, x = both(1, x);", "psp"},
		{"x = hide(k); y = open(x);", refused},
		{"x = hide(k); x = 1; y = open(x);", "ppp"},
		{"x = hide(k); y = hide(n); z = open(n);", "ssp"},
		{"x = open(n); y = hide(k); z = open(0);", "psp"},
		{"n = hide(0); if n { }", refused},
		{"k = open(0); if k { }", "ppp"},
		{"x = open(r[0]); y = hide(t[n]);", "psp"},
		{"x = open(r[k]);", refused},
		{"none(); x = k; none();", "spp"},
		{"if n { x = hide(n); } else { y = open(n); }", "spp"},
	} {
		wantBody(t, c[0], c[1])
	}
	// A Param that is Secret is so within the function, whatever it is handed; one that is not is public, whatever other calls there are.
	wantText(t, "fn f(p secret) { if p { } } fn g() { f(0); }", refused)
	wantText(t, "fn f(p) { if p { } } fn g(k secret) { f(0); k = 1; f(k); }", "")
	wantText(t, "fn f(p secret) -> q { var q; p = 3; q = p; } fn g(k secret) -> k { k = f(k); }", "p")
	wantText(t, "fn f(p) -> q { var q; q = p; } fn g(p secret) -> q { var q; q = p; } fn h(k secret) -> x, y, z, u { var x; var y; var z; var u; x = f(0); y = g(0); z = f(1); u = g(k); }", "psps")
	// A function's own words are public at the beginning of each call.
	wantText(t, "fn f(p secret) -> x, y { var x; var y; x = y; y = p; } fn g(k secret) -> a, b, c, d { var a; var b; var c; var d; a, b = f(k); c, d = f(k); }", "psps")
	// Functions that call functions; a function that is never called, or beyond the one that is run, counts for nothing.
	wantText(t, "fn a(p secret) -> p { p = -p; } fn b(q secret) -> q { q = a((q + 1)); } fn c(k secret) -> x, y { var x; var y; x = b(k); y = 1; }", "sp")
	wantText(t, "fn a(p) -> p { } fn b(q secret) -> q { q = a(q); } fn c() -> x { var x; x = b(1); }", refused)
	wantText(t, "fn a(p) -> p { if p { } } fn b(q secret) -> x { var x; x = a(1); } fn c(k secret) -> x { var x; x = b(k); if x { } }", "p")
	wantText(t, "fn a(k secret) { if k { } } fn b(k secret) -> k { }", "s")
	wantText(t, "fn a(k secret) { if k { } } fn b(k secret) -> k { if 0 { a(1); } }", refused)
	wantText(t, "fn a(k secret) { if k { } } fn b(k secret) -> k { while 0 { a(1); } }", refused)
	wantText(t, "fn a(k secret) { if k { } } fn b(k secret) -> k { var i; for i 3 3 { a(1); } }", refused)
}

// P9.1: what is not there, and what does nothing.
func TestEmpty(t *testing.T) {
	want(t, "a function without anything", api.Program{Funcs: []api.Func{{Name: "f"}}}, "")
	want(t, "empty lists", api.Program{Regions: []api.Region{}, Funcs: []api.Func{{Name: "f", Params: []api.Var{}, Vars: []api.Var{}, Rets: []string{}, Body: stmts{}}}}, "")
	wantText(t, "region k 0 2 secret; fn f(x secret) { }", "")
	wantText(t, "fn f() { } fn g(x secret) { f(); f(); }", "")
	wantText(t, "fn f(x secret) { x = 1; }", "")
	for _, c := range [][2]string{
		{"if n { }", "ppp"},
		{"x = k; if n { } else { }", "spp"},
		{"x = k; while n { }", "spp"},
		{"x = k; for i 0 0 { }", "spp"},
		{"x = k; for i 0 9 { }", "spp"},
		{"while k { }", refused},
		{"none();", "ppp"},
	} {
		wantBody(t, c[0], c[1])
	}
	l, errno := sectype.Check(program(t, "fn f(x secret) { }"))
	if len(l) != 0 || errno != api.OK {
		t.Error("no answers:", l, errno)
	}
}

// P9.1, P0.7, P0.8: a program that may not be is told as scope tells it, also where its secrets are not kept.
func TestMayNot(t *testing.T) {
	for errno, l := range spoils() {
		for i, spoil := range l {
			what := fmt.Sprint(errno, ", the way ", i)
			for _, secrets := range []string{"kept", "not kept"} {
				p := twoFuncs(t)
				if secrets == "not kept" {
					last := &p.Funcs[1]
					last.Body = append(last.Body, api.Stmt{Kind: api.StIf, E: name("p")})
				}
				spoil(&p)
				if is := scope.May(p); is != errno {
					t.Fatal(what, is)
				}
				want(t, what+", secrets "+secrets, p, errno.Error())
			}
		}
	}
}

// P9.1: answers are new.
func TestNewAnswers(t *testing.T) {
	p := program(t, "fn f(x secret, y) -> x, y { }")
	a, _ := sectype.Check(p)
	b, _ := sectype.Check(p)
	a[0], a[1] = false, true
	if told(b, api.OK) != "sp" || check(t, "once more", p) != "sp" {
		t.Error("answers are in one place")
	}
}
