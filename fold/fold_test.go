package fold_test

import (
	"testing"

	"muffle/api"
	"muffle/fold"
	"muffle/scope"
)

// P12.1, P12.2: the chapter's examples.
func TestExamples(t *testing.T) {
	wantBody(t, "x = 1; y = (x + p); if (x == 1) { y = 2; } else { y = 3; }", "x = 1; y = (1 + p); y = 2;", "= = yes{=}")
	wantStays(t, "while p { x = (x + 1); }", "while{=}")
	wantFolded(t, "pick(1, p, s[0])", nil, "pick(1, p, s[0])")
	wantFolded(t, "pick(1, p, q)", nil, "p")
}

// P12.1: a program in which nothing is known, or nothing hangs on what is, stays as it is.
func TestNothingKnown(t *testing.T) {
	wantStays(t, "", "")
	for _, c := range []struct{ text, terms string }{
		{"fn f() { }", ""},
		{"fn f(x, y secret) -> y, x { x = (x + y); y = -x; if y { x = 1; y = 2; } else { while x { } } x = (y + 1); }", "= = if{= =}{while{}} ="},
		{"region k 8 2 secret; fn f(x) -> x { array r 2 secret; stack s 2; x = r[x]; s[x] = k[x]; r[0] = s[1]; while k[1] { x = s[(x ^ x)]; } }", "= = = while{=}"},
		{"fn f() -> x { var x; array r 2; x = r[1]; r[x] = x; x = 1; x = 2; }", "= = = ="},
	} {
		p := program(t, c.text)
		wantOf(t, c.text, p, p, c.terms)
		wantRounds(t, c.text, p, p)
	}
}

// P12.1: Vars that are words are 0 at first; Params, and what arrays have, are not known.
func TestAtFirst(t *testing.T) {
	wantBody(t, "p = (p + x); q = (y - q); y = z;", "p = (p + 0); q = (0 - q); y = 0;", "= = =")
	wantBody(t, "x = r[x]; y = (s[0] + (k[y] + z));", "x = r[0]; y = (s[0] + (k[0] + 0));", "= =")
	wantStays(t, "x = p; y = (q + p); z = s[p];", "= = =")
	// An array has not a word's name, but a word may have the function's.
	wantResult(t, "fn f(x) -> f { var f; x = (x + f); if f { x = 1; } }", "fn f(x) -> f { var f; x = (x + 0); }", "= no{}")
	wantResult(t, "region y 0 1; fn f(a) { var b; array c 1; stack d 1; a = (c[b] + (d[b] + y[b])); }", "region y 0 1; fn f(a) { var b; array c 1; stack d 1; a = (c[0] + (d[0] + y[0])); }", "=")
}

// P12.1: what a word is known to be behind what sets it: to a number, to none, and again.
func TestSet(t *testing.T) {
	wantBody(t, "x = 7; y = x; y = (x + y); z = -y;", "x = 7; y = 7; y = 14; z = 18446744073709551602;", "= = = =")
	wantBody(t, "x = p; y = x; x = 3; y = x; x = (x + q); y = x; x = 4; y = (x + 1);", "x = p; y = x; x = 3; y = 3; x = (3 + q); y = x; x = 4; y = 5;", "= = = = = = = =")
	wantBody(t, "x = (x + 1); x = (x + 1); x = (x * x); y = x;", "x = 1; x = 2; x = 4; y = 4;", "= = = =")
	wantBody(t, "p = 5; x = p; p = q; x = p; q = 6; x = (q + p);", "p = 5; x = 5; p = q; x = p; q = 6; x = (6 + p);", "= = = = = =")
	wantBody(t, "x = s[0]; y = x; x = 0; y = x;", "x = s[0]; y = x; x = 0; y = 0;", "= = = =")
	wantBody(t, "x = 18446744073709551615; y = (x + 1); z = (x - y); x = ~z;", "x = 18446744073709551615; y = 0; z = 18446744073709551615; x = 0;", "= = = =")
	// What it is set to is reckoned by what is known ahead.
	wantBody(t, "x = 2; x = pick(x, p, x); y = x;", "x = 2; x = p; y = x;", "= = =")
	wantBody(t, "x = y; y = p; z = x;", "x = 0; y = p; z = 0;", "= = =")
}

// P12.1: of StPut both A and E are folded; nothing is known of what an array has.
func TestPut(t *testing.T) {
	wantBody(t, "x = 2; s[(x - 1)] = (x * x); y = s[1];", "x = 2; s[1] = 4; y = s[1];", "= = =")
	wantBody(t, "r[x] = 5; y = r[x]; k[(p + x)] = y; x = s[y];", "r[0] = 5; y = r[0]; k[(p + 0)] = y; x = s[y];", "= = = =")
	wantBody(t, "s[p] = x; s[x] = p; s[s[x]] = s[(x + 1)];", "s[p] = 0; s[0] = p; s[s[0]] = s[1];", "= = =")
	// A place that the array has not, too.
	wantBody(t, "x = 9; s[x] = x; r[(x + x)] = s[-x];", "x = 9; s[9] = 9; r[18] = s[18446744073709551607];", "= = =")
	// What is known stays known.
	wantBody(t, "x = 3; s[0] = p; r[p] = s[0]; y = x; z = (z + p);", "x = 3; s[0] = p; r[p] = s[0]; y = 3; z = (0 + p);", "= = = = =")
}

// P12.1: a branch whose E is a number is replaced by the way that is taken.
func TestTaken(t *testing.T) {
	for _, c := range [][3]string{
		{"if 1 { x = p; } else { y = p; }", "x = p;", "yes{=}"},
		{"if 0 { x = p; } else { y = p; }", "y = p;", "no{=}"},
		{"if 2 { x = p; } else { y = p; }", "x = p;", "yes{=}"},
		{"if 18446744073709551615 { x = p; } else { y = p; }", "x = p;", "yes{=}"},
		{"if 1 { x = p; }", "x = p;", "yes{=}"},
		{"if 0 { x = p; }", "", "no{}"},
		{"if 1 { } else { x = p; }", "", "yes{}"},
		{"if 0 { } else { x = p; }", "x = p;", "no{=}"},
		{"if 1 { } else { }", "", "yes{}"},
		{"if 0 { } else { }", "", "no{}"},
		{"if x { x = p; } else { y = p; }", "y = p;", "no{=}"},
		{"if ~x { x = p; } else { y = p; }", "x = p;", "yes{=}"},
		{"if (1 - 1) { x = p; }", "", "no{}"},
		{"if pick(0, p, 7) { x = p; }", "x = p;", "yes{=}"},
		{"x = 4; if (x == 4) { x = p; y = x; } else { } y = x;", "x = 4; x = p; y = x; y = x;", "= yes{= =} ="},
		{"if 1 { x = p; y = 1; z = 2; } z = y;", "x = p; y = 1; z = 2; z = 1;", "yes{= = =} ="},
		{"y = p; if 1 { x = p; y = 1; } else { } x = q; if 0 { } else { s[0] = p; s[1] = q; } r[0] = p;",
			"y = p; x = p; y = 1; x = q; s[0] = p; s[1] = q; r[0] = p;", "= yes{= =} = no{= =} ="},
	} {
		wantBody(t, c[0], c[1], c[2])
	}
	// Within each other, and within loops.
	wantBody(t, "if 1 { if 0 { x = 1; } else { if 3 { x = p; } y = p; } }", "x = p; y = p;", "yes{no{yes{=} =}}")
	wantBody(t, "if 1 { if p { if 0 { x = 1; } } else { if 1 { y = q; } } }", "if p { } else { y = q; }", "yes{if{no{}}{yes{=}}}")
	wantBody(t, "if p { if x { y = 1; } else { y = q; } } else { if 1 { if q { y = x; } } }", "if p { y = q; } else { if q { y = 0; } }", "if{no{=}}{yes{if{=}{}}}")
	wantBody(t, "while p { if x { p = 1; } else { p = q; } if p { if 1 { q = x; } } }", "while p { p = q; if p { q = 0; } }", "while{no{=} if{yes{=}}{}}")
	wantBody(t, "if 1 { while p { if 0 { p = 1; } else { p = q; s[0] = x; } } }", "while p { p = q; s[0] = 0; }", "yes{while{no{= =}}}")
	// Of the way that is not taken nothing is left, nor told, whatever it has in it.
	wantBody(t, "if 0 { if p { x = 1; } while p { y = 2; } s[9] = r[9]; } y = x;", "y = 0;", "no{} =")
}

// P12.1: a branch whose E is no number stays, and so do its ways, be they without anything.
func TestBranch(t *testing.T) {
	wantStays(t, "if p { } else { }", "if{}{}")
	wantStays(t, "if p { } if (p == q) { } else { }", "if{}{} if{}{}")
	wantStays(t, "if (p - p) { x = 1; } else { y = 1; }", "if{=}{=}")
	wantStays(t, "if s[0] { x = s[1]; } else { s[1] = p; r[p] = q; }", "if{=}{= =}")
	wantBody(t, "if (p + x) { y = x; } else { y = (x + 1); z = x; }", "if (p + 0) { y = 0; } else { y = 1; z = 0; }", "if{=}{= =}")
	wantBody(t, "if s[x] { s[x] = x; }", "if s[0] { s[0] = 0; }", "if{=}{}")
	wantBody(t, "if p { } else { if q { x = z; } else { } }", "if p { } else { if q { x = 0; } else { } }", "if{}{if{=}{}}")
	// A pick whose first Arg is a number stays, where what it leaves out may fail; so it is none itself.
	wantBody(t, "if pick(1, x, s[0]) { x = 1; } else { y = z; }", "if pick(1, 0, s[0]) { x = 1; } else { y = 0; }", "if{=}{=}")
	// What is known in each way is what is known ahead, not behind the other one.
	wantBody(t, "x = 1; if p { y = x; x = 2; y = x; } else { y = x; x = 3; y = x; }", "x = 1; if p { y = 1; x = 2; y = 2; } else { y = 1; x = 3; y = 3; }", "= if{= = =}{= = =}")
	wantBody(t, "if p { x = q; y = x; } else { y = x; }", "if p { x = q; y = x; } else { y = 0; }", "if{= =}{=}")
	wantBody(t, "if p { y = x; } else { x = q; y = x; }", "if p { y = 0; } else { x = q; y = x; }", "if{=}{= =}")
	// Also of the condition itself nothing is learnt.
	wantStays(t, "if p { y = p; } else { y = p; }", "if{=}{=}")
	wantStays(t, "if (p == 1) { y = p; } else { y = p; }", "if{=}{=}")
}

// P12.1: what is known behind a branch: what both ways leave known, with one number.
func TestBehindBranch(t *testing.T) {
	for _, c := range []struct {
		text, z string // z: what x is known to be behind it, or x
	}{
		{"if p { x = 1; } else { x = 1; }", "1"},
		{"if p { x = 1; } else { x = 2; }", "x"},
		{"if p { x = 1; }", "x"},
		{"if p { } else { x = 1; }", "x"},
		{"if p { x = 0; }", "0"},
		{"if p { } else { x = 0; }", "0"},
		{"if p { } else { }", "0"},
		{"if p { y = 1; } else { y = 2; }", "0"},
		{"if p { x = q; }", "x"},
		{"if p { } else { x = q; }", "x"},
		{"if p { x = q; } else { x = q; }", "x"},
		{"if p { x = q; } else { x = 1; }", "x"},
		{"if p { x = 1; } else { x = q; }", "x"},
		{"x = 5; if p { x = 5; }", "5"},
		{"x = 5; if p { x = 6; } else { x = 6; }", "6"},
		{"x = 5; if p { x = 6; } else { x = 5; }", "x"},
		{"x = q; if p { x = 6; } else { x = 6; }", "6"},
		{"x = q; if p { x = 0; }", "x"},
		{"x = q; if p { } else { }", "x"},
		{"x = q; if p { } else { x = 18446744073709551615; }", "x"},
		{"x = q; if p { x = ~0; } else { x = 18446744073709551615; }", "18446744073709551615"},
		{"if p { x = 1; x = 2; } else { x = (1 + 1); }", "2"},
		{"if p { x = 1; x = 2; } else { x = 2; x = 1; }", "x"},
		{"if p { if q { x = 2; } else { x = 2; } } else { x = 2; }", "2"},
		{"if p { if q { x = 2; } } else { x = 2; }", "x"},
		{"if p { if q { } else { } } else { x = 0; }", "0"},
		{"if p { if 1 { x = 3; } else { x = 4; } } else { x = 3; }", "3"},
		{"if p { if 0 { x = 3; } else { x = 4; } } else { x = 3; }", "x"},
		{"if p { while q { x = 3; } } else { x = 3; }", "x"},
		{"if p { while q { y = 3; } x = 3; } else { x = 3; }", "3"},
		// Of one that is replaced: behind the way that is taken.
		{"if 1 { x = 1; } else { x = 2; }", "1"},
		{"if 0 { x = 1; } else { x = 2; }", "2"},
		{"if 0 { x = 1; }", "0"},
		{"if 1 { } else { x = 1; }", "0"},
		{"if 1 { x = q; } else { x = 2; }", "x"},
		{"if 1 { x = 2; } else { x = q; }", "2"},
		{"x = q; if 1 { } else { x = 1; }", "x"},
		{"x = q; if 1 { x = 8; }", "8"},
		{"if 1 { if p { x = 1; } else { x = 2; } }", "x"},
		{"if 1 { if p { x = 1; } else { x = 1; } }", "1"},
	} {
		q, _, errno := folded(t, c.text, program(t, head+c.text+" z = x; }"))
		if errno != api.OK {
			t.Error(c.text, errno)
			continue
		}
		body := q.Funcs[0].Body
		if got := body[len(body)-1]; !scope.Same(inStmts(got), inStmts(set("z", expr(t, c.z)))) {
			t.Errorf("%s: z = %v, not %s", c.text, got.E, c.z)
		}
	}
	// Of all words at once.
	wantBody(t, "if p { x = 1; y = 5; } else { x = 1; y = 6; } z = (x + (y + z));", "if p { x = 1; y = 5; } else { x = 1; y = 6; } z = (1 + (y + 0));", "if{= =}{= =} =")
	wantBody(t, "p = 1; if q { p = 2; x = 3; } else { p = 2; } y = (p + (x + z));", "p = 1; if q { p = 2; x = 3; } else { p = 2; } y = (2 + (x + 0));", "= if{= =}{=} =")
}

// P12.1: of what a loop's Body sets nothing is known in it, nor ahead of it in its condition, nor behind it.
func TestLoop(t *testing.T) {
	wantStays(t, "while x { x = (x + 1); } y = x;", "while{=} =")
	wantStays(t, "while p { x = 0; } y = x;", "while{=} =")
	wantBody(t, "x = 1; while p { x = 1; } y = x;", "x = 1; while p { x = 1; } y = x;", "= while{=} =")
	wantBody(t, "while (x < p) { z = (y + 2); x = (x + 1); }", "while (x < p) { z = 2; x = (x + 1); }", "while{= =}")
	wantBody(t, "while (x < z) { x = (x + z); } y = (x + z);", "while (x < 0) { x = (x + 0); } y = (x + 0);", "while{=} =")
	wantBody(t, "while p { y = x; x = 3; y = x; } y = x;", "while p { y = x; x = 3; y = 3; } y = x;", "while{= = =} =")
	wantBody(t, "x = 4; while (x < p) { p = (p - x); } y = (x + p);", "x = 4; while (4 < p) { p = (p - 4); } y = (4 + p);", "= while{=} =")
	// What is set in any depth.
	wantBody(t, "while p { if q { x = 0; } } y = (x + z);", "while p { if q { x = 0; } } y = (x + 0);", "while{if{=}{}} =")
	wantBody(t, "while p { if q { } else { while z { x = 0; } } } y = (x + z);", "while p { if q { } else { while 0 { x = 0; } } } y = (x + 0);", "while{if{}{while{=}}} =")
	wantBody(t, "while p { y = x; while q { x = 2; y = z; } y = (x + z); }", "while p { y = x; while q { x = 2; y = 0; } y = (x + 0); }", "while{= while{= =} =}")
	wantBody(t, "while p { while q { y = x; } x = 1; while q { y = x; } } while q { y = z; }",
		"while p { while q { y = x; } x = 1; while q { y = 1; } } while q { y = 0; }", "while{while{=} = while{=}} while{=}")
	// Also what is set in a way that is never taken: the Body is asked as it was.
	wantBody(t, "while p { if 0 { x = 1; } y = x; } z = x;", "while p { y = x; } z = x;", "while{no{} =} =")
	// What an array is put does not count, nor what is read.
	wantBody(t, "while s[x] { s[x] = (y + z); p = r[z]; } y = x;", "while s[0] { s[0] = 0; p = r[0]; } y = 0;", "while{= =} =")
	// Without anything.
	wantBody(t, "while p { } y = x;", "while p { } y = 0;", "while{} =")
	wantBody(t, "while x { } y = x;", "while 0 { } y = 0;", "while{} =")
	// What is learnt within is not known behind.
	wantBody(t, "p = q; while q { p = 1; x = p; } y = (x + p);", "p = q; while q { p = 1; x = 1; } y = (x + p);", "= while{= =} =")
}

// P12.1: a loop whose condition is a number stays.
func TestLoopOfNumber(t *testing.T) {
	wantStays(t, "while 0 { x = 1; }", "while{=}")
	wantStays(t, "while 1 { x = p; }", "while{=}")
	wantStays(t, "while 2 { }", "while{}")
	wantBody(t, "while z { x = (x + z); } y = (z + x);", "while 0 { x = (x + 0); } y = (0 + x);", "while{=} =")
	wantBody(t, "while ~z { if z { x = 1; } else { y = z; } }", "while 18446744073709551615 { y = 0; }", "while{no{=}}")
	wantBody(t, "if z { } else { while (z == 1) { while (z == 0) { x = z; } } }", "while 0 { while 1 { x = 0; } }", "no{while{while{=}}}")
}

// P12.1: all but the Body stays: regions, Params, Vars, also those that nothing asks any more, and Rets.
func TestAllElseStays(t *testing.T) {
	text := "region k 8 2 secret; region l 512 512; fn f(a secret, b) -> x, b, a { var x; var i; array r 3 secret; var j; stack s 2; stack t 512 secret; if i { t[0] = j; } }"
	p := program(t, text)
	want := scope.Clone(p)
	want.Funcs[0].Body = nil
	wantOf(t, text, p, want, "no{}")
	wantRounds(t, text, p, want, "no{}")
}

// P12.1: terms are in memory of their own, also those of equal statements.
func TestTermsApart(t *testing.T) {
	text := head + "if 1 { if p { x = p; } while p { y = p; } } if 1 { if p { x = p; } while p { y = p; } } }"
	_, terms, errno := folded(t, text, program(t, text))
	const one = "yes{if{=}{} while{=}}"
	if got := tellTerms(terms); errno != api.OK || got != one+" "+one {
		t.Fatal(errno, got)
	}
	terms[0].Subs[0][0].Subs[0][0].Kind = api.TermNone
	terms[0].Subs[0][1].Subs = nil
	if got := tellTerms(terms[1:]); got != one {
		t.Error(got)
	}
}

// P12.1: lists without anything, with room behind their ends, are handed in as well.
func TestRoomBehindTheEnds(t *testing.T) {
	names, args, body := []string{"mark"}, exprs{word(9)}, stmts{set("mark", word(9))}
	s := func(s api.Stmt) api.Stmt {
		s.Names, s.Args = names[:0], args[:0]
		if s.Kind != api.StIf {
			s.Else = body[:0]
		}
		if s.Kind == api.StSet || s.Kind == api.StPut {
			s.Body = body[:0]
		}
		return s
	}
	e := api.Expr{Op: api.OpConst, Word: 1, Args: args[:0]}
	p := program(t, head+"}")
	p.Funcs[0].Body = stmts{s(set("x", e)), s(put("s", e, name("x"))), s(when(name("p"), s(set("y", e)))), s(while(e, s(set("z", e))))}
	want := program(t, head+"x = 1; s[1] = 1; if p { y = 1; } while 1 { z = 1; } }")
	for what, of := range map[string]func(p api.Program) (api.Program, api.Errno){
		"Program": func(p api.Program) (api.Program, api.Errno) { q, _, errno := fold.Program(p); return q, errno },
		"Rounds":  func(p api.Program) (api.Program, api.Errno) { q, _, errno := fold.Rounds(p); return q, errno },
	} {
		q, errno := of(p)
		if errno != api.OK || !scope.Same(q, want) {
			t.Error(what, errno, tell(q))
		}
		wantApart(t, what, q, names, args, body)
	}
	wantApart(t, "Expr", fold.Expr(api.Expr{Op: api.OpNot, Args: exprs{{Op: api.OpVar, Name: "x", Args: args[:0]}}}, nil), args)
}
