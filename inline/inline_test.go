package inline_test

import (
	"strings"
	"testing"

	"muffle/api"
	"muffle/inline"
	"muffle/scope"
)

// P10.1: the chapter's examples.
func TestExamples(t *testing.T) {
	wantResult(t, "fn f(a) -> b { var b; b = a; } fn g() -> x { var x; x = f(1); }",
		"fn g() -> x { var x; var v0; var v1; v0 = 1; v1 = 0; v1 = v0; x = v1; }",
		"call()(){=}{lines()}")
	text := "region k 8 2 secret; fn f(x, y secret) -> z, x { var z; array r 3 secret; stack s 2; z = (k[x] + y); r[0] = z; s[1] = x; }"
	wantResult(t, text, text, "= = =")
	wantResult(t, "fn f() { stack s 2; } fn g() { f(); f(); }",
		"fn g() { stack v0 2; v0[0] = 0; v0[1] = 0; v0[0] = 0; v0[1] = 0; }",
		"call(#0)(#1){}{} call(#0)(#1){}{}")
}

// P10.1, P10.2: a program without calls is what it was.
func TestNoCalls(t *testing.T) {
	for _, c := range []struct{ text, terms string }{
		{"fn f() { }", ""},
		{"region k 0 1; region l 64 2 secret; fn v0(v1 secret) -> v1 { v1 = l[k[0]]; }", "="},
		{"fn f(x) -> y { var y; array r 2; stack s 2 secret; var i; if x { y = 1; r[y] = 2; } else { } while y { y = 0; if 1 { } else { s[0] = 1; } } for i 0 3 { y = i; while i { } } }",
			"if{= =}{} while{= if{}{=}} each{= while{}}"},
	} {
		p := program(t, c.text)
		wantOf(t, c.text, p, p, c.terms)
		wantReached(t, c.text, p)
		wantNames(t, c.text, p, "")
		wantCalls(t, c.text, p, 0)
	}
}

// P10.1: those beside the last function, and what their names were, are gone.
func TestNotReached(t *testing.T) {
	const used, unused = "fn f(x) -> x { x = 1; }", "(a secret) -> a { var b; array r 2; stack s 2; }"
	last := "fn last() -> y { var y; y = f(2); }"
	result := "fn last() -> y { var y; var v0; v0 = 2; v0 = 1; y = v0; }"
	for i, text := range []string{
		"fn g" + unused + used + last,
		used + "fn g" + unused + last,
		"fn g" + unused + "fn h" + unused + used + "fn i" + unused + last,
		// What calls, but is not reached, reaches nothing.
		"fn g" + unused + used + "fn h() -> y { var y; y = g(1); y = f(2); }" + last,
	} {
		wantResult(t, text, result, "call(){=}{lines()}")
		p := program(t, text)
		wantReached(t, text, p, []int{1, 0, 2, 1}[i])
		wantNames(t, text, p, "word v0")
		wantCalls(t, text, p, 1)
	}
	text := used + "fn g" + unused + "fn last() { }"
	wantResult(t, text, "fn last() { }", "")
	wantReached(t, text, program(t, text))
}

// P10.1: a call may stand wherever a statement may.
func TestWithin(t *testing.T) {
	const f = "fn f(x) -> x { x = (x + 1); } "
	wantIn := func(body, result, terms string) {
		t.Helper()
		result = strings.ReplaceAll(result, "CALL", "v0 = y; v0 = (v0 + 1); y = v0;")
		terms = strings.ReplaceAll(terms, "CALL", "call(){=}{lines()}")
		wantResult(t, f+"fn g(y) -> y { var i; var j; "+body+" }", "fn g(y) -> y { var i; var j; var v0; "+result+" }", terms)
	}
	wantIn("y = f(y);", "CALL", "CALL")
	wantIn("y = 1; y = f(y); y = 2;", "y = 1; CALL y = 2;", "= CALL =")
	wantIn("if y { y = f(y); }", "if y { CALL }", "if{CALL}{}")
	wantIn("if y { } else { y = 0; y = f(y); }", "if y { } else { y = 0; CALL }", "if{}{= CALL}")
	wantIn("if y { y = f(y); } else { y = f(y); y = f(y); }", "if y { CALL } else { CALL CALL }", "if{CALL}{CALL CALL}")
	wantIn("while (y < 9) { y = f(y); }", "while (y < 9) { CALL }", "while{CALL}")
	wantIn("for i 2 5 { y = f(y); }", "for i 2 5 { CALL }", "each{CALL}")
	wantIn("for i 5 5 { y = f(y); y = i; }", "for i 5 5 { CALL y = i; }", "each{CALL =}")
	wantIn("for i 0 2 { while y { if y { for j 1 3 { y = f(y); } } else { if i { } else { y = f(y); } } } y = f(y); }",
		"for i 0 2 { while y { if y { for j 1 3 { CALL } } else { if i { } else { CALL } } } CALL }",
		"each{while{if{each{CALL}}{if{}{CALL}}} CALL}")
}

// P10.1, P10.2: functions that are reached twice, from two functions, and through others; each has its new names once.
func TestTwice(t *testing.T) {
	text := "fn f(a) -> a { a = (a + 1); } fn g(a) -> b { var b; b = f(a); if b { b = f(b); } } fn h(c) -> c { c = g(c); } fn m(n) -> n { n = f(n); n = g(n); n = h(n); n = g(7); }"
	p := program(t, text)
	wantReached(t, text, p, 0, 1, 2)
	wantNames(t, text, p, "word v0, word v1, word v2, word v3")
	wantCalls(t, text, p, 1+3+4+3)
	f := func(to, arg string) string { return "v0 = " + arg + "; v0 = (v0 + 1); " + to + " = v0; " }
	g := func(to, arg string) string {
		return "v1 = " + arg + "; v2 = 0; " + f("v2", "v1") + "if v2 { " + f("v2", "v2") + "} " + to + " = v2; "
	}
	h := "v3 = n; " + g("v3", "v3") + "n = v3; "
	const termF = "call(){=}{lines()}"
	const termG = "call()(){" + termF + " if{" + termF + "}{}}{lines()}"
	wantResult(t, text, "fn m(n) -> n { var v0; var v1; var v2; var v3; "+f("n", "n")+g("n", "n")+h+g("n", "7")+"}",
		termF+" "+termG+" call(){"+termG+"}{lines()} "+termG)

	// Reached through another alone, which stands behind it, and beside one that is not.
	text = "fn f() { } fn n() { } fn g() { f(); f(); } fn m() { g(); }"
	p = program(t, text)
	wantReached(t, text, p, 0, 2)
	wantCalls(t, text, p, 3)
	wantResult(t, text, "fn m() { }", "call{call{}{} call{}{}}{}")
	// In the order of the functions, not of the calls.
	text = "fn f(x) { } fn g(y) { } fn m() { g(1); f(2); }"
	wantReached(t, text, program(t, text), 0, 1)
	wantResult(t, text, "fn m() { var v0; var v1; v1 = 1; v0 = 2; }", "call(){}{} call(){}{}")
}

// P10.1, P10.2: variables of each kind, level and size: which are put 0, and what lines there are of that.
func TestVars(t *testing.T) {
	text := `region k 0 3 secret;
		fn f(a, b secret) -> y, a { var x; array r 1; array rs 3 secret; stack s 1 secret; var y; stack t 2; x = a; r[0] = x; rs[x] = r[0]; s[b] = t[1]; k[y] = k[a]; y = (rs[s[x]] ^ x); }
		fn m(n) -> n { var z; z, n = f(3, n); }`
	wantNames(t, text, program(t, text), "word v0, word v1, word v2, array v3 1, array v4 3!, stack v5 1!, word v6, stack v7 2")
	wantResult(t, text, `region k 0 3 secret;
		fn m(n) -> n { var z; var v0; var v1; var v2; array v3 1; array v4 3 secret; stack v5 1 secret; var v6; stack v7 2;
			v0 = 3; v1 = n;
			v2 = 0; v3[0] = 0; v4[0] = 0; v4[1] = 0; v4[2] = 0; v5[0] = 0; v6 = 0; v7[0] = 0; v7[1] = 0;
			v2 = v0; v3[0] = v2; v4[v2] = v3[0]; v5[v1] = v7[1]; k[v6] = k[v0]; v6 = (v4[v5[v2]] ^ v2);
			z = v6; n = v0; }`,
		"call()()()()()()()(#0)()(#0)(#1){= = = = = =}{lines() lines()}")

	// A Param's level is none of a Var; those of the last function stay, its Params Params.
	text = "fn f(a secret) { array r 2; } fn m(p secret, q) -> q, p { array r 2 secret; f(p); }"
	wantResult(t, text, "fn m(p secret, q) -> q, p { array r 2 secret; var v0; array v1 2; v0 = p; v1[0] = 0; v1[1] = 0; }", "call()()(){}{}")
	text = "fn f() { stack s 512; }  fn m() { f(); }"
	q, terms, errno := taken(t, text, program(t, text))
	if errno != api.OK || len(q.Funcs[0].Body) != 512 || len(terms) != 1 || len(terms[0].Lines) != 512 || tellPicks(terms[0].Lines[511]) != "#511" {
		t.Error(errno, tellTerms(terms))
	}
}

// P10.1: a word that counts is not set to 0, wherever its loop stands.
func TestCounts(t *testing.T) {
	text := "fn f() { var i; var x; var j; for i 0 2 { x = i; } if x { } else { while x { for j 1 1 { } } } for i 2 3 { } } fn m() { var i; f(); }"
	wantResult(t, text, "fn m() { var i; var v0; var v1; var v2; v1 = 0; for v0 0 2 { v1 = v0; } if v1 { } else { while v1 { for v2 1 1 { } } } for v0 2 3 { } }",
		"call(){each{=} if{}{while{each{}}} each{}}{}")
	// What counts in another function counts for nothing here.
	text = "fn f() { var i; var j; for i 0 2 { } } fn g() { var i; var j; for j 0 2 { f(); } } fn m() { var i; var j; for j 0 1 { for i 0 1 { g(); } } }"
	wantResult(t, text, "fn m() { var i; var j; var v0; var v1; var v2; var v3; for j 0 1 { for i 0 1 { v2 = 0; for v3 0 2 { v1 = 0; for v0 0 2 { } } } } }",
		"each{each{call(){each{call(){each{}}{}}}{}}}")
}

// P10.1: several Names; and functions without Params, Vars, Rets or Body.
func TestParts(t *testing.T) {
	for _, c := range []struct{ text, result, terms string }{
		{"fn f(a, b, c) -> c, a, b { } fn m(x, y, z) -> x { z, x, y = f(x, y, z); }",
			"fn m(x, y, z) -> x { var v0; var v1; var v2; v0 = x; v1 = y; v2 = z; z = v2; x = v0; y = v1; }",
			"call()()(){}{lines() lines() lines()}"},
		{"fn f() { } fn m() { f(); f(); }", "fn m() { }", "call{}{} call{}{}"},
		{"region k 0 1; fn f() { k[0] = 1; } fn m() { f(); }", "region k 0 1; fn m() { k[0] = 1; }", "call{=}{}"},
		{"fn f() -> x { var x; } fn m() -> y { var y; y = f(); }", "fn m() -> y { var y; var v0; v0 = 0; y = v0; }", "call(){}{lines()}"},
		{"fn f(a) { } fn m() { f(5); }", "fn m() { var v0; v0 = 5; }", "call(){}{}"},
		{"fn f(a) -> a { } fn m(x) -> x { x = f(x); }", "fn m(x) -> x { var v0; v0 = x; x = v0; }", "call(){}{lines()}"},
		{"fn f() { var x; } fn m() { f(); }", "fn m() { var v0; v0 = 0; }", "call(){}{}"},
	} {
		wantResult(t, c.text, c.result, c.terms)
	}
}

// P10.1, P10.2: new names are those that no region, and no variable of the last function, has.
func TestNewNames(t *testing.T) {
	for _, c := range []struct{ text, names, result, terms string }{
		{"region v0 0 1; fn f(a) { } fn m(v1) { f(v0[v1]); }", "word v2", "region v0 0 1; fn m(v1) { var v2; v2 = v0[v1]; }", "call(0){}{}"},
		{"region v3 0 1; fn f(a, b) { var c; } fn m() { var v0; array v2 1; stack v5 1; f(1, 2); }", "word v1, word v4, word v6",
			"region v3 0 1; fn m() { var v0; array v2 1; stack v5 1; var v1; var v4; var v6; v1 = 1; v4 = 2; v6 = 0; }", "call()()(){}{}"},
		// No others' names: not those of functions, nor of their variables.
		{"fn v0(v2, v1) -> v0 { var v0; v0 = v2; } fn n(v3) { var v4; } fn v1() -> a { var a; a = v0(1, 2); }", "word v0, word v1, word v2",
			"fn v1() -> a { var a; var v0; var v1; var v2; v0 = 1; v1 = 2; v2 = 0; v2 = v0; a = v2; }", "call()()(){=}{lines()}"},
		// A call's Name is a function's, also where a variable has it, too.
		{"fn f(x) -> x { } fn g(f) -> f { f = f(f); } fn m(g) -> g { g = g(g); }", "word v0, word v1",
			"fn m(g) -> g { var v0; var v1; v1 = g; v0 = v1; v1 = v0; g = v1; }", "call(){call(){}{lines()}}{lines()}"},
		// Names that look like new ones: v00, v, v_1, v1a.
		{"region v00 0 1; fn f(a, b) { } fn m(v, v_1, v1a) { f(v, 1); }", "word v0, word v1", "region v00 0 1; fn m(v, v_1, v1a) { var v0; var v1; v0 = v; v1 = 1; }", "call()(){}{}"},
		// A region's own name stays.
		{"region r 0 2; fn f(a) { r[a] = r[1]; } fn m() { f(0); }", "word v0", "region r 0 2; fn m() { var v0; v0 = 0; r[v0] = r[1]; }", "call(){=}{}"},
	} {
		wantNames(t, c.text, program(t, c.text), c.names)
		wantResult(t, c.text, c.result, c.terms)
	}
	// Beyond ten, and beyond a hundred: those ahead are taken.
	text := "fn f(a) { } fn m(v0, v1, v2, v3, v4, v5, v6, v7, v8, v9) { var v11; f(1); }"
	wantNames(t, text, program(t, text), "word v10")
	p := program(t, "fn f(a, b, c, d, e, f, g, h) { } fn m(v1) { f(1, 2, 3, 4, 5, 6, 7, 8); }")
	for range 13 {
		f := scope.Clone(p).Funcs[0]
		f.Name += string(rune('a' + len(p.Funcs)))
		p.Funcs = append([]api.Func{f}, p.Funcs...)
		last := &p.Funcs[len(p.Funcs)-1]
		args := exprs{word(1), word(2), word(3), word(4), word(5), word(6), word(7), word(8)}
		last.Body = append(last.Body, call(f.Name, nil, args...))
	}
	l, errno := inline.Names(p)
	if errno != api.OK || len(l) != 112 || l[0].Name != "v0" || l[1].Name != "v2" || l[111].Name != "v112" {
		t.Error(errno, tellVars(l))
	}
}

// P10.1: functions whose variables have the same names, of other kinds, too.
func TestSameNames(t *testing.T) {
	text := `fn f(x, y) -> y { stack z 2; var i; for i 0 1 { z[x] = i; } y = z[y]; }
		fn g(y, x) -> z { var z; array i 1; z = f((y + 1), i[x]); i[0] = z; }
		fn m(z) -> x { var x; stack y 3; stack i 2; x = f(i[y[x]], z); x = g(y[z], x); }`
	wantNames(t, text, program(t, text), "word v0, word v1, stack v2 2, word v3, word v4, word v5, word v6, array v7 1")
	f := func(to, a, b string) string {
		return "v0 = " + a + "; v1 = " + b + "; v2[0] = 0; v2[1] = 0; for v3 0 1 { v2[v0] = v3; } v1 = v2[v1]; " + to + " = v1; "
	}
	wantResult(t, text, `fn m(z) -> x { var x; stack y 3; stack i 2; var v0; var v1; stack v2 2; var v3; var v4; var v5; var v6; array v7 1; `+
		f("x", "i[y[x]]", "z")+"v4 = y[z]; v5 = x; v6 = 0; v7[0] = 0; "+f("v6", "(v4 + 1)", "v7[v5]")+"v7[0] = v6; x = v6; }",
		"call(0 1)()(#0)(#1){each{=} =}{lines()} call(0)()()(){call()()(#0)(#1){each{=} =}{lines()} =}{lines()}")
}

// P10.1: of a call's arguments each has a line, with those items that are its own.
func TestPicks(t *testing.T) {
	const functions = "region k 0 4; fn f(a) { } fn f2(a, b) { } fn f3(a, b, c) { } fn s(r) { } fn m(x) { array r 4; stack s 4; stack t 4; "
	for _, c := range []struct{ args, lines string }{
		{"f(1)", "()"},
		{"f(x)", "()"},
		{"f(r[x])", "()"},
		{"f(s[x])", "(0)"},
		{"f(k[x])", "(0)"},
		{"f(~s[1])", "(0)"},
		{"f((s[1] + k[2]))", "(0 1)"},
		{"f(s[t[k[r[x]]]])", "(0 1 2)"},
		{"f(r[s[r[k[x]]]])", "(0 1)"},
		{"f(pick(s[0], r[s[1]], (k[2] * -t[3])))", "(0 1 2 3)"},
		{"f2(s[0], k[1])", "(0)(1)"},
		{"f2(x, k[1])", "()(0)"},
		{"f2(s[t[0]], r[k[1]])", "(0 1)(2)"},
		{"f3(s[t[0]], r[x], (k[1] ^ k[2]))", "(0 1)()(2 3)"},
		{"f3(1, 2, s[0])", "()()(0)"},
		{"s(s[0])", "(0)"},
	} {
		text := functions + c.args + "; }"
		_, terms, errno := taken(t, text, program(t, text))
		if got := tellTerms(terms); errno != api.OK || got != "call"+c.lines+"{}{}" {
			t.Errorf("%s: %v, %s, not %s", c.args, errno, got, c.lines)
		}
	}
	// Each name is what it is in the function that calls.
	text := "fn f(a) { stack r 1; } fn g(a) { stack r 2; f(r[a]); } fn m() { array r 2; stack a 2; g(r[a[0]]); g(a[r[1]]); f(r[0]); }"
	_, terms, errno := taken(t, text, program(t, text))
	const within = "(#0)(#1){call(0)(#0){}{}}{}"
	if got := tellTerms(terms); errno != api.OK || got != "call(0)"+within+" call(0)"+within+" call()(#0){}{}" {
		t.Error(errno, got)
	}
}

// P10.2: places of any expression, by what its names are in that function.
func TestPlaces(t *testing.T) {
	text := "region k 0 2; fn f(x) { array a 1; stack b 1; stack c 2; } fn n() { stack a 1; var b; } fn m(y) -> y { stack a 2; array b 3; y = k[0]; f(a[b[k[y]]]); }"
	p := program(t, text)
	for _, c := range []struct {
		expr    string
		f, n, m int
	}{
		{"1", 0, 0, 0},
		{"x", 0, 0, 0},
		{"k[0]", 1, 1, 1},
		{"a[0]", 0, 1, 1},
		{"b[0]", 1, 0, 0},
		{"c[0]", 1, 0, 0},
		{"d[0]", 0, 0, 0},
		{"d[k[a[b[c[0]]]]]", 3, 2, 2},
		{"x[k[0]]", 1, 1, 1},
		{"y[b[0]]", 1, 0, 0},
		{"m[f[k[0]]]", 1, 1, 1},
		{"(a[0] + (b[0] + (c[9] + k[9])))", 3, 2, 2},
		{"pick(k[1], ~k[2], -k[3])", 3, 3, 3},
		{"a[a[a[a[0]]]]", 0, 4, 4},
	} {
		e := expr(t, c.expr)
		for f, want := range []int{c.f, c.n, c.m} {
			wantPlaces(t, c.expr, p, f, e, want)
		}
	}
	wantPlaces(t, "nothing", p, 2, api.Expr{}, 0)
	// What could be in no program leaks what it has.
	at := api.Expr{Op: api.OpIndex, Name: "a"}
	wantPlaces(t, "an array without a place", p, 2, at, 1)
	wantPlaces(t, "an array with three places", p, 2, api.Expr{Op: api.OpIndex, Name: "a", Args: exprs{at, at, at}}, 4)
	wantPlaces(t, "a word with arguments", p, 2, api.Expr{Op: api.OpVar, Name: "a", Args: exprs{at, at}}, 2)
	wantPlaces(t, "a constant with arguments", p, 2, api.Expr{Op: api.OpConst, Word: 3, Name: "a", Args: exprs{at}}, 1)
	wantPlaces(t, "no operation", p, 2, api.Expr{Op: 77, Name: "a", Args: exprs{at, {Op: -1, Name: "a", Args: exprs{at}}}}, 2)
	wantPlaces(t, "no name", p, 2, api.Expr{Op: api.OpIndex, Args: exprs{at}}, 1)
}
