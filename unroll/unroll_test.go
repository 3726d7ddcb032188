package unroll_test

import (
	"strings"
	"testing"

	"muffle/api"
	"muffle/scope"
	"muffle/unroll"
)

// P11.1: the chapter's examples.
func TestExamples(t *testing.T) {
	wantResult(t, "fn f() { var i; array r 3; for i 0 3 { r[i] = (i + 1); } }",
		"fn f() { var i; array r 3; r[0] = (0 + 1); r[1] = (1 + 1); r[2] = (2 + 1); }", "for{=}{=}{=}")
	wantResult(t, "fn f() -> x { var x; var i; for i 5 5 { x = 1; } }", "fn f() -> x { var x; var i; }", "for")
	text := "fn f() { var i; var j; for i 0 65536 { for j 0 2 { } } }"
	wantErrno(t, text, program(t, text), api.ErrMany)
}

// P11.1: a program without loops of a number of rounds is what it was.
func TestNoLoops(t *testing.T) {
	for _, c := range []struct{ text, terms string }{
		{"fn f() { }", ""},
		{"region k 0 1; region l 64 2 secret; fn v(x secret, y) -> y, x { x = l[k[0]]; }", "="},
		{"fn f(x) -> y { var y; array r 2; stack s 2 secret; if x { y = 1; r[y] = 2; } else { } while y { y = 0; if 1 { } else { s[0] = 1; } } }",
			"if{= =}{} while{= if{}{=}}"},
	} {
		p := program(t, c.text)
		wantOf(t, c.text, p, p, c.terms)
		wantRounds(t, c.text, p, 0)
	}
}

// P11.1: a loop may stand wherever a statement may, and any statement in it.
func TestWithin(t *testing.T) {
	wantBody(t, "x = 1; for i 0 2 { x = i; } y = 2;", "x = 1; x = 0; x = 1; y = 2;", "= for{=}{=} =")
	wantBody(t, "if p { for i 0 2 { x = i; } }", "if p { x = 0; x = 1; }", "if{for{=}{=}}{}")
	wantBody(t, "if p { } else { for i 0 2 { x = i; } }", "if p { } else { x = 0; x = 1; }", "if{}{for{=}{=}}")
	wantBody(t, "if p { for i 0 1 { x = i; } y = i; } else { y = 0; for i 1 3 { x = i; } }", "if p { x = 0; y = i; } else { y = 0; x = 1; x = 2; }",
		"if{for{=} =}{= for{=}{=}}")
	wantBody(t, "while p { for i 0 2 { x = i; } p = 0; }", "while p { x = 0; x = 1; p = 0; }", "while{for{=}{=} =}")
	wantBody(t, "for j 1 3 { for i 0 2 { x = (i + j); } }", "x = (0 + 1); x = (1 + 1); x = (0 + 2); x = (1 + 2);", "for{for{=}{=}}{for{=}{=}}")
	wantBody(t, "for i 0 2 { if (i == p) { x = i; } }", "if (0 == p) { x = 0; } if (1 == p) { x = 1; }", "for{if{=}{}}{if{=}{}}")
	wantBody(t, "for i 0 2 { if p { } else { x = i; y = i; } }", "if p { } else { x = 0; y = 0; } if p { } else { x = 1; y = 1; }", "for{if{}{= =}}{if{}{= =}}")
	wantBody(t, "for i 0 2 { while (x < i) { x = (x + i); } }", "while (x < 0) { x = (x + 0); } while (x < 1) { x = (x + 1); }", "for{while{=}}{while{=}}")
	wantBody(t, "for i 3 5 { x = i; for j 0 1 { while j { if i { for z 2 4 { x = (z * (i - j)); } } else { s[i] = j; } } } }",
		"x = 3; while 0 { if 3 { x = (2 * (3 - 0)); x = (3 * (3 - 0)); } else { s[3] = 0; } } x = 4; while 0 { if 4 { x = (2 * (4 - 0)); x = (3 * (4 - 0)); } else { s[4] = 0; } }",
		"for{= for{while{if{for{=}{=}}{=}}}}{= for{while{if{for{=}{=}}{=}}}}")
	wantBody(t, "if p { while q { for i 0 2 { if i { for j 0 2 { x = (i ^ j); } } else { } } } }",
		"if p { while q { if 0 { x = (0 ^ 0); x = (0 ^ 1); } else { } if 1 { x = (1 ^ 0); x = (1 ^ 1); } else { } } }",
		"if{while{for{if{for{=}{=}}{}}{if{for{=}{=}}{}}}}{}")
}

// P11.1, P11.2: loops of no round, of one, of many, from 0 and above.
func TestHowOften(t *testing.T) {
	for _, c := range []struct {
		loop, result, terms string
		rounds              int
	}{
		{"for i 0 0 { x = i; }", "", "for", 0},
		{"for i 7 7 { x = i; y = i; }", "", "for", 0},
		{"for i 65536 65536 { x = i; }", "", "for", 0},
		{"for i 0 0 { } x = 1;", "x = 1;", "for =", 0},
		{"for i 0 1 { x = i; }", "x = 0;", "for{=}", 1},
		{"for i 9 10 { x = i; }", "x = 9;", "for{=}", 1},
		{"for i 65535 65536 { x = i; }", "x = 65535;", "for{=}", 1},
		{"for i 0 5 { x = i; }", "x = 0; x = 1; x = 2; x = 3; x = 4;", "for{=}{=}{=}{=}{=}", 5},
		{"for i 8 11 { x = i; y = i; }", "x = 8; y = 8; x = 9; y = 9; x = 10; y = 10;", "for{= =}{= =}{= =}", 3},
		{"for i 0 3 { }", "", "for{}{}{}", 3},
		{"for i 1 3 { for j 4 4 { x = j; } }", "", "for{for}{for}", 2},
		{"for i 4 4 { for j 1 3 { x = j; } }", "", "for", 0},
		{"for i 0 2 { for j 0 3 { } }", "", "for{for{}{}{}}{for{}{}{}}", 8},
		{"for i 0 2 { for j 0 1 { x = i; } for j 0 2 { y = j; } }", "x = 0; y = 0; y = 1; x = 1; y = 0; y = 1;", "for{for{=} for{=}{=}}{for{=} for{=}{=}}", 8},
		{"if p { for i 0 2 { } } else { for i 0 3 { } while 0 { for j 0 4 { } } }", "if p { } else { while 0 { } }", "if{for{}{}}{for{}{}{} while{for{}{}{}{}}}", 9},
		{"for i 0 2 { if p { for j 0 2 { } } else { while 1 { for j 0 3 { } } } }", "if p { } else { while 1 { } } if p { } else { while 1 { } }",
			"for{if{for{}{}}{while{for{}{}{}}}}{if{for{}{}}{while{for{}{}{}}}}", 12},
	} {
		wantBody(t, c.loop, c.result, c.terms)
		wantRounds(t, c.loop, program(t, "fn f(p) { var x; var y; var i; var j; "+c.loop+" }"), c.rounds)
	}
}

// P11.2: the last function's loops alone count, also where it calls.
func TestRoundsOfTheLast(t *testing.T) {
	for _, c := range []struct {
		text string
		want int
	}{
		{"fn g() { var i; for i 0 9 { } } fn f() { }", 0},
		{"fn g() { var i; for i 0 9 { } } fn f() { var i; for i 0 4 { g(); } g(); }", 4},
		{"fn f() { var i; for i 0 4 { } } fn g() { var i; for i 0 2 { } for i 0 1 { } }", 3},
	} {
		wantRounds(t, c.text, program(t, c.text), c.want)
	}
}

// P11.1: a word that counts is its number wherever it is read.
func TestReads(t *testing.T) {
	for _, c := range [][2]string{
		{"x = i;", "x = N;"},
		{"x = (i + (p * i));", "x = (N + (p * N));"},
		{"x = -i; y = ~~i;", "x = -N; y = ~~N;"},
		{"x = pick(i, (i <<< 1), (2 - i));", "x = pick(N, (N <<< 1), (2 - N));"},
		{"x = r[i];", "x = r[N];"},
		{"x = k[s[(i & 3)]];", "x = k[s[(N & 3)]];"},
		{"r[i] = 1;", "r[N] = 1;"},
		{"s[i] = i;", "s[N] = N;"},
		{"k[(i ^ 1)] = s[i];", "k[(N ^ 1)] = s[N];"},
		{"s[r[i]] = s[s[i]];", "s[r[N]] = s[s[N]];"},
		{"if i { } else { }", "if N { } else { }"},
		{"if (p == i) { x = i; } else { y = i; }", "if (p == N) { x = N; } else { y = N; }"},
		{"while (x < i) { x = (x + i); }", "while (x < N) { x = (x + N); }"},
		{"while s[i] { s[i] = 0; }", "while s[N] { s[N] = 0; }"},
		// What is not its stays: other words, those that count elsewhere, an array's name.
		{"x = (y + (p + q));", "x = (y + (p + q));"},
		{"x = j; s[j] = i;", "x = j; s[j] = N;"},
		{"x = (x + i); y = x; p = y; q = i;", "x = (x + N); y = x; p = y; q = N;"},
	} {
		at := func(n string) string { return strings.ReplaceAll(c[1], "N", n) + " " }
		_, own, errno := unroll.Program(program(t, head+c[0]+" }"))
		terms := tellTerms(own)
		if errno != api.OK {
			t.Error(c[0], errno)
		}
		wantBody(t, "for i 2 4 { "+c[0]+" }", at("2")+at("3"), "for{"+terms+"}{"+terms+"}")
		// Ahead of the loop, and behind it, the word is a word.
		wantBody(t, c[0]+" for i 65535 65536 { "+c[0]+" } "+c[0], c[0]+" "+at("65535")+c[0], terms+" for{"+terms+"} "+terms)
	}
}

// P11.1: one word may count several loops, one behind the other, also on both ways of a branch.
func TestOneBehindTheOther(t *testing.T) {
	wantBody(t, "for i 0 2 { x = i; } y = i; for i 5 7 { x = i; } y = i;", "x = 0; x = 1; y = i; x = 5; x = 6; y = i;", "for{=}{=} = for{=}{=} =")
	wantBody(t, "for j 0 2 { for i 0 1 { x = (i + j); } y = i; for i 3 4 { x = (i + j); } y = (i + j); } x = j;",
		"x = (0 + 0); y = i; x = (3 + 0); y = (i + 0); x = (0 + 1); y = i; x = (3 + 1); y = (i + 1); x = j;", "for{for{=} = for{=} =}{for{=} = for{=} =} =")
	wantBody(t, "if p { for i 0 1 { x = i; } } else { for i 1 2 { x = i; } } for i 2 3 { x = i; }", "if p { x = 0; } else { x = 1; } x = 2;", "if{for{=}}{for{=}} for{=}")
	wantBody(t, "for i 0 2 { for j 0 1 { x = (i * j); } } for j 0 2 { for i 0 1 { x = (i * j); } }",
		"x = (0 * 0); x = (1 * 0); x = (0 * 0); x = (0 * 1);", "for{for{=}}{for{=}} for{for{=}}{for{=}}")
	wantBody(t, "for i 0 0 { for j 0 3 { x = (i + j); } } for j 2 3 { x = (i + j); }", "x = (i + 2);", "for for{=}")
}

// P11.1: all but the last function's Body stays: regions, Params, Vars, also those that counted, Rets.
func TestAllElseStays(t *testing.T) {
	text := "region k 8 2 secret; region l 512 512; fn f(a secret, b) -> x, b, a { var x; var i; array r 3 secret; var j; stack s 2; stack t 512 secret; for i 0 1 { for j 0 1 { } } }"
	p := program(t, text)
	want := scope.Clone(p)
	want.Funcs[0].Body = nil
	wantOf(t, text, p, want, "for{for{}}")
}

// P11.1: the terms of what is laid in a round are made for each round, in memory of their own.
func TestTermsApart(t *testing.T) {
	text := "fn f(p) { var i; var j; for i 0 3 { for j 0 2 { if p { p = i; } else { } while p { p = j; } } } }"
	const inner = "for{if{=}{} while{=}}{if{=}{} while{=}}"
	_, terms, errno := laid(t, text, program(t, text))
	if got, want := tellTerms(terms), "for{"+inner+"}{"+inner+"}{"+inner+"}"; errno != api.OK || got != want {
		t.Fatal(errno, got)
	}
	terms[0].Subs[1][0].Subs[0][0].Subs[0][0].Kind = api.TermNone
	terms[0].Subs[2][0].Subs = nil
	if got := tellTerms(terms[0].Subs[0]); got != inner {
		t.Error(got)
	}
}
