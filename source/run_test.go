package source_test

import (
	"slices"
	"testing"

	"muffle/api"
	"muffle/source"
)

// good is a program that ends without an error, and what it comes to.
type good struct {
	text         string
	args         []uint64
	rets         []uint64
	regions      [][]uint64 // nil: as inputOf makes them
	leak         string
	steps, asked int
}

// wantGood wants of a program just what is said; and of its runs with each number of steps what the model says.
func wantGood(t *testing.T, g good) {
	t.Helper()
	p := program(t, g.text)
	in := inputOf(p, g.args...)
	want := api.Ran{Out: api.Output{Rets: g.rets, Regions: g.regions}, Steps: g.steps, Asked: g.asked}
	if g.regions == nil {
		want.Out.Regions = in.Regions
	}
	for _, fuel := range []int{g.steps, g.steps + 1, api.MaxFuel} {
		x := ran(t, g.text, p, in, fuel)
		if got := told(x.Leak); got != g.leak {
			t.Errorf("%s:\nleaks %s\nnot   %s", g.text, got, g.leak)
		}
		x.Leak = nil
		if !sameRan(x, want) {
			t.Errorf("%s:\n%s, not\n%s", g.text, tellRan(x), tellRan(want))
		}
	}
	wantEachStep(t, g.text, p, in, 300)
}

func wantAllGood(t *testing.T, l []good) {
	t.Helper()
	for _, g := range l {
		wantGood(t, g)
	}
}

// P8.1: the chapter's examples.
func TestExamples(t *testing.T) {
	wantGood(t, good{
		text: "fn f() -> y { var x; var y; stack s 4; x = 3; s[1] = x; y = s[1]; }",
		rets: []uint64{3}, leak: "line line[1] line[1]", steps: 3,
	})
	endless := program(t, "fn f() { while 1 { } }")
	want := api.Ran{Steps: 5, Asked: 4, Errno: api.ErrFuel}
	x := ran(t, "without end", endless, api.Input{}, 5)
	if got := told(x.Leak); got != "loop{if+{} if+{} if+{} if+{}}" {
		t.Error(got)
	}
	if x.Leak = nil; !sameRan(x, want) {
		t.Error(tellRan(x))
	}
	x = ran(t, "no such place", program(t, "fn f() -> y { var y; stack s 4; y = s[9]; }"), api.Input{}, 9)
	if !sameRan(x, api.Ran{Steps: 1, Errno: api.ErrBounds}) {
		t.Error(tellRan(x))
	}
}

// P8.1: each statement, by itself.
func TestStatements(t *testing.T) {
	wantAllGood(t, []good{
		{text: "fn f() { }"},
		{text: "fn f(x) -> x { }", args: []uint64{7}, rets: []uint64{7}},
		{text: "region a 0 2; region b 64 1; fn f(x) { }", args: []uint64{greatest}},
		{text: "fn f(x) -> x { x = 5; }", args: []uint64{7}, rets: []uint64{5}, leak: "line", steps: 1},
		{text: "fn f(x) -> x { x = (x + x); }", args: []uint64{7}, rets: []uint64{14}, leak: "line", steps: 1},
		{text: "fn f(x) -> y { var y; y = x; x = 9; }", args: []uint64{7}, rets: []uint64{7}, leak: "line line", steps: 2},
		{text: "fn f(x) -> x { if x { x = 1; } else { x = 2; } }", args: []uint64{0}, rets: []uint64{2}, leak: "if{line}", steps: 2},
		{text: "fn f(x) -> x { if x { x = 1; } else { x = 2; } }", args: []uint64{7}, rets: []uint64{1}, leak: "if+{line}", steps: 2},
		{text: "fn f(x) -> x { if x { x = 1; } else { x = 2; } }", args: []uint64{greatest}, rets: []uint64{1}, leak: "if+{line}", steps: 2},
		{text: "fn f(x) -> x { if x { x = 1; } }", args: []uint64{0}, rets: []uint64{0}, leak: "if{}", steps: 1},
		{text: "fn f(x) -> x { if x { } else { x = 2; } }", args: []uint64{1 << 63}, rets: []uint64{1 << 63}, leak: "if+{}", steps: 1},
		{text: "fn f(x) -> x { if x { } x = 3; }", args: []uint64{0}, rets: []uint64{3}, leak: "if{} line", steps: 2},
		{text: "fn f(x) -> x { if (x < 3) { x = 1; x = (x + 1); } else { } }", args: []uint64{2}, rets: []uint64{2}, leak: "if+{line line}", steps: 3},
		{text: "fn f(x) { if x { if (x == 2) { } else { if 0 { } } } }", args: []uint64{1}, leak: "if+{if{if{}}}", steps: 3},
	})
}

// P8.1: arrays of registers, arrays on the stack, and regions: they are apart from each other, and each place from the others.
func TestArrays(t *testing.T) {
	wantAllGood(t, []good{
		{
			text: "fn f() -> a, b { var a; var b; array r 3; r[0] = 4; r[2] = (r[0] + 1); a = r[2]; b = (r[0] + r[1]); }",
			rets: []uint64{5, 4}, leak: "line line line line", steps: 4,
		},
		{
			text: "fn f() -> a, b { var a; var b; stack s 3; s[0] = 4; s[2] = (s[0] + 1); a = s[2]; b = (s[0] + s[1]); }",
			rets: []uint64{5, 4}, leak: "line[0] line[0 2] line[2] line[0 1]", steps: 4,
		},
		{
			text: "region k 8 3; fn f() -> a, b { var a; var b; k[0] = 4; k[2] = (k[0] + 1); a = k[2]; b = (k[0] + k[1]); }",
			rets: []uint64{5, 15}, regions: [][]uint64{{4, 11, 5}}, leak: "line[0] line[0 2] line[2] line[0 1]", steps: 4,
		},
		{
			text: "region k 0 2; region m 16 2; fn f(i) -> a { var a; array r 2; array q 2; stack s 2; stack u 2;" +
				" r[i] = 1; q[i] = 2; s[i] = 3; u[i] = 4; k[i] = 5; m[i] = 6;" +
				" a = ((((((((r[i] * 10) + q[i]) * 10) + s[i]) * 10) + u[i]) * 100) + ((k[i] * 10) + m[i])); }",
			args: []uint64{1}, rets: []uint64{123456}, regions: [][]uint64{{10, 5}, {20, 6}},
			leak: "line line line[1] line[1] line[1] line[1] line[1 1 1 1]", steps: 7,
		},
		{
			text: "region k 0 2; region m 16 2; fn f(i) -> a { var a; array r 2; array q 2; stack s 2; stack u 2; a = (((r[i] + q[i]) + (s[i] + u[i])) + (k[i] ^ m[i])); }",
			args: []uint64{0}, rets: []uint64{10 ^ 20}, leak: "line[0 0 0 0]", steps: 1,
		},
		{
			// The greatest arrays, in their first and last places.
			text: "region k 0 512; fn f(i) -> a { var a; array r 512; stack s 512; r[i] = 1; s[i] = 2; k[i] = 3; a = ((r[511] + s[511]) + (k[511] + (r[0] + s[0]))); k[i] = 521; }",
			args: []uint64{511}, rets: []uint64{6}, leak: "line line[511] line[511] line[511 511 0] line[511]", steps: 5,
		},
		{text: "fn f(x) -> x { stack s 1; s[0] = x; x = 0; x = s[0]; }", args: []uint64{greatest}, rets: []uint64{greatest}, leak: "line[0] line line[0]", steps: 3},
		{
			// The last word that is put is the one that is there.
			text: "fn f(x) -> x { array r 2; r[x] = 5; r[x] = 6; r[(x - 1)] = 7; x = r[x]; }",
			args: []uint64{1}, rets: []uint64{6}, leak: "line line line line", steps: 4,
		},
	})
}

// P8.1: calls of functions that stand ahead: Params, Rets, what is 0 each time, and what is handed back.
func TestCalls(t *testing.T) {
	const two = "fn two(a, b) -> c, b { var c; c = (a - b); b = (b + 100); } "
	wantAllGood(t, []good{
		{text: "fn g() { } fn f() { g(); }", leak: "call{}", steps: 1},
		{text: "fn g() { } fn f(x) -> x { g(); x = 1; g(); }", args: []uint64{0}, rets: []uint64{1}, leak: "call{} line call{}", steps: 3},
		{text: "fn g(x) -> x { } fn f(y) -> y, z { var z; z = g((y + 1)); }", args: []uint64{4}, rets: []uint64{4, 5}, leak: "call{}", steps: 1},
		{text: two + "fn f() -> x, y { var x; var y; x, y = two(7, 2); }", rets: []uint64{5, 102}, leak: "call{line line}", steps: 3},
		{text: two + "fn f() -> x, y { var x; var y; y, x = two(7, 2); }", rets: []uint64{102, 5}, leak: "call{line line}", steps: 3},
		// Names that are words in the Args, too; the Args are reckoned ahead of all.
		{text: two + "fn f(x, y) -> x, y { x, y = two(y, x); }", args: []uint64{2, 7}, rets: []uint64{5, 102}, leak: "call{line line}", steps: 3},
		{text: "fn swap(a, b) -> b, a { } fn f(x, y) -> x, y { x, y = swap(x, y); }", args: []uint64{2, 7}, rets: []uint64{7, 2}, leak: "call{}", steps: 1},
		{text: "fn swap(x, y) -> y, x { } fn f(x, y) -> x, y { x, y = swap(x, y); x, y = swap((x + y), y); }", args: []uint64{2, 7}, rets: []uint64{2, 9}, leak: "call{} call{}", steps: 2},
		// The same function twice: its words are 0 again, and so are its arrays.
		{
			text: "fn g(a) -> b, d { var b; var c; var d; array r 2; stack s 2; b = ((c + r[1]) + s[1]); c = a; r[1] = a; s[1] = a; d = ((c + r[1]) + s[1]); }" +
				" fn f() -> x, y, z { var x; var y; var z; x, y = g(5); x, z = g(7); }",
			rets: []uint64{0, 15, 21}, leak: "call{line[1] line line line[1] line[1]} call{line[1] line line line[1] line[1]}", steps: 12,
		},
		{
			// A Param that is set is what is handed in the next time; so is a Ret that was not set 0.
			text: "fn g(a) -> b, a { var b; a = (a + 1); if (a < 4) { b = 9; } } fn f(x) -> x, y, z { var y; var z; y, x = g(x); z, x = g(x); z, x = g(x); }",
			args: []uint64{1}, rets: []uint64{4, 9, 0}, leak: "call{line if+{line}} call{line if+{line}} call{line if{}}", steps: 11,
		},
		// What has the same name in both is not the same.
		{
			text: "fn g(x) -> y { var y; array r 2; stack s 3; r[0] = x; s[0] = x; x = 100; y = (r[0] + s[0]); } fn f(x) -> x, y, z { var y; var z; array r 1; stack s 1; r[0] = 1; s[0] = 2; y = g(x); z = (r[0] + s[0]); }",
			args: []uint64{6}, rets: []uint64{6, 12, 3}, leak: "line line[0] call{line line[0] line line[0]} line[0]", steps: 8,
		},
		// An array of registers in one is on the stack in the other.
		{
			text: "fn g(i) -> a { var a; stack r 2; a = r[i]; } fn f(i) -> a { var a; array r 2; r[i] = 5; a = g(i); a = (a + r[i]); }",
			args: []uint64{1}, rets: []uint64{5}, leak: "line call{line[1]} line", steps: 4,
		},
		// Regions are all functions'.
		{
			text: "region k 0 2; fn put(i, x) { k[i] = x; } fn get(i) -> x { var x; x = k[i]; } fn f(i) -> x { var x; put(i, (k[i] + 5)); k[i] = (k[i] * 2); x = get(i); put(0, x); }",
			args: []uint64{1}, rets: []uint64{32}, regions: [][]uint64{{32, 32}}, leak: "call[1]{line[1]} line[1 1] call{line[1]} call{line[0]}", steps: 7,
		},
		// Calls within calls: one function is called by several.
		{
			text: "fn inc(x) -> x { x = (x + 1); } fn incs(x) -> x { x = inc(x); x = inc(x); } fn none() { } fn f(x) -> x { x = incs(x); x = inc(x); if x { x = incs(x); } }",
			args: []uint64{10}, rets: []uint64{15}, leak: "call{call{line} call{line}} call{line} if+{call{call{line} call{line}}}", steps: 13,
		},
	})
}

// P8.1: loops with a condition.
func TestWhile(t *testing.T) {
	const down = "fn f(x) -> x, y { var y; while x { x = (x - 1); y = (y + 2); } }"
	wantAllGood(t, []good{
		{text: "fn f() { while 0 { } }", leak: "loop{if{}}", steps: 2, asked: 1},
		{text: down, args: []uint64{0}, rets: []uint64{0, 0}, leak: "loop{if{}}", steps: 2, asked: 1},
		{text: down, args: []uint64{1}, rets: []uint64{0, 2}, leak: "loop{if+{line line} if{}}", steps: 5, asked: 2},
		{text: down, args: []uint64{3}, rets: []uint64{0, 6}, leak: "loop{if+{line line} if+{line line} if+{line line} if{}}", steps: 11, asked: 4},
		{
			// The condition is reckoned anew each time; what it leaks is each time's own.
			text: "fn f(x) -> x { stack s 4; s[2] = 1; s[3] = 1; while s[x] { x = (x - 1); } }",
			args: []uint64{3}, rets: []uint64{1}, leak: "line[2] line[3] loop{if[3]+{line} if[2]+{line} if[1]{}}", steps: 8, asked: 3,
		},
		{
			// Within each other.
			text: "fn f(x) -> n { var y; var n; while x { x = (x - 1); y = x; while y { y = (y - 1); n = (n + 1); } } }",
			args: []uint64{3}, rets: []uint64{3},
			leak:  "loop{if+{line line loop{if+{line line} if+{line line} if{}}} if+{line line loop{if+{line line} if{}}} if+{line line loop{if{}}} if{}}",
			steps: 1 + 4 + 3*3 + 6 + 6, asked: 10,
		},
		{
			text: "fn g(x) -> x { while (x < 4) { x = (x + 3); } } fn f(x) -> x { while (x < 9) { x = g(x); if (x == 4) { x = 9; } } }",
			args: []uint64{1}, rets: []uint64{9},
			leak: "loop{if+{call{loop{if+{line} if{}}} if+{line}} if{}}", steps: 10, asked: 4,
		},
	})
}

// P8.1: loops of a number of rounds.
func TestFor(t *testing.T) {
	wantAllGood(t, []good{
		{text: "fn f() { var i; for i 0 0 { } }", leak: "for", steps: 1},
		{text: "fn f(x) -> x { var i; for i 5 5 { x = 1; } for i 65536 65536 { x = 1; } }", args: []uint64{3}, rets: []uint64{3}, leak: "for for", steps: 2},
		{text: "fn f() { var i; for i 0 1 { } }", leak: "for{}", steps: 2},
		{text: "fn f() { var i; for i 0 3 { } }", leak: "for{}{}{}", steps: 4},
		{text: "fn f(x) -> x { var i; for i 65535 65536 { x = i; } }", args: []uint64{3}, rets: []uint64{65535}, leak: "for{line}", steps: 3},
		{text: "fn f(x) -> x { var i; for i 2 5 { x = ((x * 10) + i); } }", args: []uint64{0}, rets: []uint64{234}, leak: "for{line}{line}{line}", steps: 7},
		{
			// The word is 0 ahead and behind, and one thing in each round.
			text: "fn f() -> a, b, c { var a; var b; var c; var i; stack s 9; a = i; for i 7 9 { s[i] = i; b = (b + i); } c = (i + 5); s[i] = s[8]; a = (a + s[0]); }",
			rets: []uint64{8, 15, 5}, leak: "line for{line[7] line}{line[8] line} line line[8 0] line[0]", steps: 1 + 1 + 2 + 4 + 3,
		},
		{
			// One behind the other, with the same word; ahead of the second one it is 0.
			text: "fn f(x) -> x { var i; for i 1 3 { x = ((x * 10) + i); } x = ((x * 10) + i); for i 5 6 { x = ((x * 10) + i); } for i 4 4 { } x = ((x * 10) + i); }",
			args: []uint64{0}, rets: []uint64{12050}, leak: "for{line}{line} line for{line} for line", steps: 3 + 2 + 1 + 2 + 1 + 1 + 1,
		},
		{
			// Within each other.
			text: "fn f(x) -> x { var i; var j; for i 1 3 { for j 1 4 { x = (((x * 10) + i) * (j != 3)); } x = (x + (j + i)); } }",
			args: []uint64{7}, rets: []uint64{2},
			leak: "for{for{line}{line}{line} line}{for{line}{line}{line} line}", steps: 1 + 2 + 2 + 6 + 6 + 2,
		},
		{
			// Within StWhile, and StWhile within it.
			text: "fn f(x) -> x, n { var i; var n; while x { for i 0 2 { while (x == 3) { x = 2; } n = (n + i); } x = (x - 1); } }",
			args: []uint64{3}, rets: []uint64{0, 2},
			leak:  "loop{if+{for{loop{if+{line} if{}} line}{loop{if{}} line} line} if+{for{loop{if{}} line}{loop{if{}} line} line} if{}}",
			steps: 1 + 3 + 2 + 4 + 4 + 5 + 1 + 4 + 2, asked: 8,
		},
		{
			// A function that is called has its own words of the same name, and a round may call.
			text: "fn g(j) -> n { var i; var n; for i 0 2 { n = (n + (i + j)); } n = (n + i); } fn f() -> x, i2 { var x; var i; var i2; for i 3 5 { x = g(i); i2 = ((i2 * 100) + (x * i)); } x = i; }",
			rets: []uint64{0, 2136}, leak: "for{call{for{line}{line} line} line}{call{for{line}{line} line} line} line",
			steps: 1 + 2 + 4 + 2*6 + 1,
		},
		{text: "fn f(x) -> x { var i; for i 0 3 { if (i == x) { x = 9; } else { } } }", args: []uint64{1}, rets: []uint64{9}, leak: "for{if{}}{if+{line}}{if{}}", steps: 8},
	})
}

// P8.1: what is told: the Rets in their order; the regions, in theirs, as they are at the end.
func TestOutput(t *testing.T) {
	wantAllGood(t, []good{
		{text: "fn f(a, b, c) -> c, a { }", args: []uint64{1, 2, 3}, rets: []uint64{3, 1}},
		{text: "fn f(a, b) -> z, b, y, a { var x; var y; var z; z = 5; }", args: []uint64{1, 2}, rets: []uint64{5, 2, 0, 1}, leak: "line", steps: 1},
		{text: "fn f(a, b) { a = b; }", args: []uint64{1, 2}, leak: "line", steps: 1},
		// Not the first function, and none that is not called.
		{text: "fn a(x) -> x { x = 1; } fn b() -> y { var y; y = 2; while 1 { } } fn c() -> z { var z; z = 3; }", rets: []uint64{3}, leak: "line", steps: 1},
		// Regions that lie in another order than they stand in.
		{text: "region k 64 1; region m 0 3; region n 24 2; fn f() { m[1] = 1; k[0] = 2; n[1] = 3; }", regions: [][]uint64{{2}, {20, 1, 22}, {30, 3}}, leak: "line[1] line[0] line[1]", steps: 3},
		{text: "region k 0 1; fn f() -> x { var x; x = k[0]; k[0] = 99; k[0] = x; }", rets: []uint64{10}, leak: "line[0] line[0] line[0]", steps: 3},
	})
}

// P8.1: of a run that breaks off, or has an error, there is no output, whatever was done.
func TestNoOutput(t *testing.T) {
	for text, want := range map[string]api.Errno{
		"region k 0 2; fn f(x) -> x { x = 5; k[1] = 6; while 1 { } }":            api.ErrFuel,
		"region k 0 2; fn f(x) -> x { stack s 1; x = 5; k[1] = 6; x = s[1]; }":   api.ErrBounds,
		"region k 0 2; fn f(x) -> x { k[1] = 6; k[2] = 7; }":                     api.ErrBounds,
		"region k 0 2; fn g() { k[2] = 7; } fn f(x) -> x { k[1] = 6; g(); }":     api.ErrBounds,
		"region k 0 2; fn g() { while 1 { } } fn f(x) -> x { k[1] = 6; g(); }":   api.ErrFuel,
		"region k 0 2; fn f(x) -> x { array r 1; k[1] = 6; if r[x] { x = 1; } }": api.ErrBounds,
	} {
		p := program(t, text)
		in := inputOf(p, 1)
		x := ran(t, text, p, in, 50)
		if x.Errno != want || len(x.Out.Rets) != 0 || len(x.Out.Regions) != 0 {
			t.Errorf("%s: %s", text, tellRan(x))
		}
		if x.Steps == 0 || len(x.Leak) == 0 {
			t.Errorf("%s: %s", text, tellRan(x))
		}
		wantEachStep(t, text, p, in, 50)
	}
}

// DOC.md, rules: what is answered is in new memory, which no other answer and nothing that is handed in shares.
func TestNewMemory(t *testing.T) {
	p := program(t, "region k 0 2; region m 16 2; fn f(x, y) -> x, y { stack s 2; var i; s[x] = k[x]; if s[x] { m[y] = k[y]; } for i 0 2 { s[i] = i; } while m[i] { m[i] = 0; } }")
	in := inputOf(p, 1, 0)
	first := ran(t, "the first run", p, in, 100)
	want := tellRan(first)
	second := ran(t, "the second run", p, in, 100)
	// All that is answered is written over, behind its end, too.
	for _, l := range append([][]uint64{second.Out.Rets}, second.Out.Regions...) {
		for i := range l[:cap(l)] {
			l[:cap(l)][i] = 77
		}
	}
	second.Out.Regions[0] = nil
	overwrite(second.Leak)
	if got := tellRan(first); got != want {
		t.Errorf("%s, not %s", got, want)
	}
	if got := tellRan(ran(t, "the third run", p, in, 100)); got != want {
		t.Errorf("%s, not %s", got, want)
	}
	in.Args[0], in.Regions[0][1] = 55, 55
	if got := tellRan(first); got != want {
		t.Errorf("%s, not %s", got, want)
	}
	// Each list alone is written over: the others stay.
	third := ran(t, "one more", p, inputOf(p, 1, 0), 100)
	l := append([][]uint64{third.Out.Rets}, third.Out.Regions...)
	for i := range l {
		for k := range l {
			if i != k && len(l[i]) > 0 {
				was := slices.Clone(l[k])
				l[i][0]++
				_ = append(l[i], 1, 2, 3)
				if !slices.Equal(l[k], was) {
					t.Errorf("%d and %d are in one place", i, k)
				}
			}
		}
	}
}

// overwrite writes over all of a leakage.
func overwrite(l []api.Leak) {
	for i := range l {
		for k := range l[i].Items {
			l[i].Items[k] = 77
		}
		for _, sub := range l[i].Subs {
			overwrite(sub)
		}
		l[i] = api.Leak{Kind: 77}
	}
}

// P8.1: ErrArg: whatever scope's Fit refuses, and fuel that is not from 0 to MaxFuel.
func TestRefused(t *testing.T) {
	p := program(t, "region k 0 2; region m 64 3; fn f(x, y) -> x { x = k[y]; }")
	in := inputOf(p, 1, 0)
	if x := ran(t, "as it should be", p, in, 9); x.Errno != api.OK || x.Out.Rets[0] != 10 {
		t.Error(tellRan(x))
	}
	for _, fuel := range []int{-1, -2, -1 << 63, api.MaxFuel + 1, api.MaxFuel + 2, 1<<63 - 1} {
		wantRefused(t, "fuel", p, in, fuel)
	}
	of := func(args int, regions ...int) api.Input {
		in := api.Input{Args: make([]uint64, args)}
		for _, n := range regions {
			in.Regions = append(in.Regions, make([]uint64, n))
		}
		return in
	}
	for what, in := range map[string]api.Input{
		"nothing":               {},
		"an Arg too few":        of(1, 2, 3),
		"an Arg too many":       of(3, 2, 3),
		"no Args":               of(0, 2, 3),
		"no region":             of(2),
		"a region too few":      of(2, 2),
		"a region too many":     of(2, 2, 3, 0),
		"one more of a word":    of(2, 2, 3, 1),
		"a region too short":    of(2, 1, 3),
		"a region too long":     of(2, 3, 3),
		"the last one too long": of(2, 2, 4),
		"the other way round":   of(2, 3, 2),
		"an empty region":       of(2, 2, 0),
	} {
		wantRefused(t, what, p, in, 9)
		wantRefused(t, what+", without steps", p, in, 0)
	}
	for what, spoil := range spoils() {
		q := program(t, "region k 0 2; region m 64 3; fn g() { } fn f(x, y) -> x { x = k[y]; }")
		spoil(&q)
		wantRefused(t, what, q, in, 9)
	}
	wantRefused(t, "a program without anything", api.Program{}, api.Input{}, 9)
}

// spoils are ways to make of a program with two regions and two functions, the last of which is run and sets x, one that may not be.
func spoils() map[string]func(p *api.Program) {
	x := api.Stmt{Kind: api.StSet, Name: "x", E: word(1)}
	return map[string]func(p *api.Program){
		"a name that is none":        func(p *api.Program) { p.Funcs[0].Name = "for" },
		"a name twice":               func(p *api.Program) { p.Funcs[0].Name = "f" },
		"a region at 4":              func(p *api.Program) { p.Regions[0].Addr = 4 },
		"two regions in one place":   func(p *api.Program) { p.Regions[1].Addr = 8 },
		"no such word":               func(p *api.Program) { p.Funcs[1].Body[0].Name = "z" },
		"no such array":              func(p *api.Program) { p.Funcs[1].Body[0].E.Name = "z" },
		"a word for an array":        func(p *api.Program) { p.Funcs[1].Body[0].E.Name = "y" },
		"an array for a word":        func(p *api.Program) { p.Funcs[1].Body[0].Name = "k" },
		"no place":                   func(p *api.Program) { p.Funcs[1].Body[0].E.Args = nil },
		"an operation that is none":  func(p *api.Program) { p.Funcs[1].Body[0].E.Args[0].Op = 22 },
		"no expression":              func(p *api.Program) { p.Funcs[1].Body[0].E = api.Expr{} },
		"a kind that is none":        func(p *api.Program) { p.Funcs[1].Body[0].Kind = 7 },
		"a statement of zeros":       func(p *api.Program) { p.Funcs[1].Body[0] = api.Stmt{} },
		"a function that is not run": func(p *api.Program) { p.Funcs[0].Body = stmts{x} },
		"a call of itself":           func(p *api.Program) { p.Funcs[1].Body[0] = api.Stmt{Kind: api.StCall, Name: "f"} },
		"a call of none":             func(p *api.Program) { p.Funcs[1].Body[0] = api.Stmt{Kind: api.StCall, Name: "h"} },
		"too many Args":              func(p *api.Program) { p.Funcs[1].Body[0] = api.Stmt{Kind: api.StCall, Name: "g", Args: exprs{word(1)}} },
		"a loop of a parameter":      func(p *api.Program) { p.Funcs[1].Body[0] = api.Stmt{Kind: api.StFor, Name: "y"} },
		"a Ret that is none":         func(p *api.Program) { p.Funcs[1].Rets[0] = "z" },
		"a Ret too many": func(p *api.Program) {
			p.Funcs[1].Rets = append(p.Funcs[1].Rets, "x")
		},
		"what nests too deep": func(p *api.Program) {
			for range 64 {
				p.Funcs[1].Body = stmts{{Kind: api.StIf, E: word(1), Body: p.Funcs[1].Body}}
			}
		},
		"what nests as deep as may be given": func(p *api.Program) {
			e := word(1)
			for range 1 << 16 {
				e = op(api.OpNot, e)
			}
			p.Funcs[1].Body[0].E = e
		},
		"statements as deep as may be given": func(p *api.Program) {
			for range 1 << 16 {
				p.Funcs[1].Body = stmts{{Kind: api.StWhile, E: word(1), Body: p.Funcs[1].Body}}
			}
		},
		"too many statements": func(p *api.Program) {
			for range api.MaxSize / 2 {
				p.Funcs[1].Body = append(p.Funcs[1].Body, x)
			}
		},
	}
}

// P8.1: just MaxFuel steps, one more than that, and none at all.
func TestMaxFuel(t *testing.T) {
	p := program(t, "fn f(x) -> x { while x { x = (x - 1); } }")
	x := ran(t, "all steps that may be", p, api.Input{Args: []uint64{499999}}, api.MaxFuel)
	if x.Errno != api.OK || x.Steps != api.MaxFuel || x.Asked != 500000 || !slices.Equal(x.Out.Rets, []uint64{0}) || len(x.Leak[0].Subs[0]) != 500000 {
		t.Error(x.Errno, x.Steps, x.Asked, x.Out)
	}
	x = ran(t, "some more", p, api.Input{Args: []uint64{500000}}, api.MaxFuel)
	if x.Errno != api.ErrFuel || x.Steps != api.MaxFuel || x.Asked != 500000 || len(x.Out.Rets) != 0 || len(x.Leak[0].Subs[0]) != 500000 {
		t.Error(x.Errno, x.Steps, x.Asked, x.Out)
	}
	x = ran(t, "no steps", p, api.Input{Args: []uint64{3}}, 0)
	if !sameRan(x, api.Ran{Errno: api.ErrFuel}) {
		t.Error(tellRan(x))
	}
	none := program(t, "region k 0 1; fn g() { while 1 { } } fn f(x) -> x { }")
	x = ran(t, "no steps, and nothing to do", none, inputOf(none, 3), 0)
	if !sameRan(x, api.Ran{Out: api.Output{Rets: []uint64{3}, Regions: [][]uint64{{10}}}}) {
		t.Error(tellRan(x))
	}
	if _, errno := source.Run(none, inputOf(none, 3), api.MaxFuel); errno != api.OK {
		t.Error(errno)
	}
}
