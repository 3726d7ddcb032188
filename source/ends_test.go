package source_test

import (
	"fmt"
	"strings"
	"testing"

	"muffle/api"
)

// wantEnds wants what is leaked, and how often was asked, with 0, 1, 2, .. steps; with those of the last line the run ends as is said.
// A line is a leakage behind how often was asked.
func wantEnds(t *testing.T, text string, args []uint64, end api.Errno, lines string) {
	t.Helper()
	p := program(t, text)
	in := inputOf(p, args...)
	l := strings.Split(strings.TrimSpace(lines), "\n")
	for fuel, line := range l {
		x := ran(t, text, p, in, fuel)
		want := api.ErrFuel
		if fuel == len(l)-1 {
			want = end
		}
		if got := strings.TrimSpace(fmt.Sprint(x.Asked, " ", told(x.Leak))); got != strings.TrimSpace(line) || x.Steps != fuel || x.Errno != want {
			t.Errorf("%s, with %d:\n%d steps, %v: %s\nnot %v: %s", text, fuel, x.Steps, x.Errno, got, want, strings.TrimSpace(line))
		}
		if x.Errno != api.OK && (len(x.Out.Rets) > 0 || len(x.Out.Regions) > 0) {
			t.Errorf("%s, with %d: %v", text, fuel, x.Out)
		}
	}
	wantEachStep(t, text, p, in, 300)
}

// P8.1, P8.4: where a run breaks off, at each statement, each asking, and each round.
func TestBrokenOff(t *testing.T) {
	wantEnds(t, "fn f(x) -> x { stack s 2; x = s[x]; s[x] = x; }", []uint64{1}, api.OK, `
		0
		0 line[1]
		0 line[1] line[0]`)
	wantEnds(t, "fn f(x) -> x { stack s 2; if s[x] { x = 2; } else { x = 3; s[1] = x; } x = 4; }", []uint64{1}, api.OK, `
		0
		0 if[1]{}
		0 if[1]{line}
		0 if[1]{line line[1]}
		0 if[1]{line line[1]} line`)
	wantEnds(t, "fn f(x) -> x { if x { x = 2; if x { x = 3; } } x = 4; }", []uint64{1}, api.OK, `
		0
		0 if+{}
		0 if+{line}
		0 if+{line if+{}}
		0 if+{line if+{line}}
		0 if+{line if+{line}} line`)
	wantEnds(t, "fn f(x) -> x { if x { } if (x - 1) { } else { } }", []uint64{1}, api.OK, `
		0
		0 if+{}
		0 if+{} if{}`)
	wantEnds(t, "fn f(x) -> x { stack s 3; s[2] = 1; while s[x] { x = (x - 1); s[0] = x; } x = 4; }", []uint64{2}, api.OK, `
		0
		0 line[2]
		0 line[2] loop{}
		1 line[2] loop{if[2]+{}}
		1 line[2] loop{if[2]+{line}}
		1 line[2] loop{if[2]+{line line[0]}}
		2 line[2] loop{if[2]+{line line[0]} if[1]{}}
		2 line[2] loop{if[2]+{line line[0]} if[1]{}} line`)
	wantEnds(t, "fn f(x) -> x { while x { while (x < 3) { x = (x + 1); } x = 0; } }", []uint64{2}, api.OK, `
		0
		0 loop{}
		1 loop{if+{}}
		1 loop{if+{loop{}}}
		2 loop{if+{loop{if+{}}}}
		2 loop{if+{loop{if+{line}}}}
		3 loop{if+{loop{if+{line} if{}}}}
		3 loop{if+{loop{if+{line} if{}} line}}
		4 loop{if+{loop{if+{line} if{}} line} if{}}`)
	wantEnds(t, "fn f(x) -> x { var i; stack s 3; for i 1 3 { s[i] = 1; x = s[(i - 1)]; } x = 4; }", []uint64{2}, api.OK, `
		0
		0 for
		0 for{}
		0 for{line[1]}
		0 for{line[1] line[0]}
		0 for{line[1] line[0]}{}
		0 for{line[1] line[0]}{line[2]}
		0 for{line[1] line[0]}{line[2] line[1]}
		0 for{line[1] line[0]}{line[2] line[1]} line`)
	wantEnds(t, "fn f() { var i; var j; for i 0 0 { } for i 0 2 { for j 0 1 { } } }", nil, api.OK, `
		0
		0 for
		0 for for
		0 for for{}
		0 for for{for}
		0 for for{for{}}
		0 for for{for{}}{}
		0 for for{for{}}{for}
		0 for for{for{}}{for{}}`)
	wantEnds(t, "fn g(x) -> y { var y; stack s 3; y = s[x]; s[0] = y; } fn f(x) -> x { stack s 2; x = g(s[x]); x = g((x + s[1])); }", []uint64{1}, api.OK, `
		0
		0 call[1]{}
		0 call[1]{line[0]}
		0 call[1]{line[0] line[0]}
		0 call[1]{line[0] line[0]} call[1]{}
		0 call[1]{line[0] line[0]} call[1]{line[0]}
		0 call[1]{line[0] line[0]} call[1]{line[0] line[0]}`)
}

// P8.1, P8.4: what breaks off within calls, branches, loops and rounds that stand in each other.
func TestBrokenOffWithin(t *testing.T) {
	wantEnds(t, "fn e() { } fn g(x) -> x { e(); if x { x = (x - 1); } } fn f(x) -> x { var i; for i 0 2 { while x { x = g(x); } e(); } }", []uint64{1}, api.OK, `
		0
		0 for
		0 for{}
		0 for{loop{}}
		1 for{loop{if+{}}}
		1 for{loop{if+{call{}}}}
		1 for{loop{if+{call{call{}}}}}
		1 for{loop{if+{call{call{} if+{}}}}}
		1 for{loop{if+{call{call{} if+{line}}}}}
		2 for{loop{if+{call{call{} if+{line}}} if{}}}
		2 for{loop{if+{call{call{} if+{line}}} if{}} call{}}
		2 for{loop{if+{call{call{} if+{line}}} if{}} call{}}{}
		2 for{loop{if+{call{call{} if+{line}}} if{}} call{}}{loop{}}
		3 for{loop{if+{call{call{} if+{line}}} if{}} call{}}{loop{if{}}}
		3 for{loop{if+{call{call{} if+{line}}} if{}} call{}}{loop{if{}} call{}}`)
}

// P8.1, P8.4: a run that has an error takes no more steps, and with fewer it breaks off.
func TestErrorsAtEachStep(t *testing.T) {
	wantEnds(t, "fn f(x) -> x { stack s 2; x = (s[1] + s[x]); x = 1; }", []uint64{2}, api.ErrBounds, `
		0
		0`)
	wantEnds(t, "fn f(x) -> x { stack s 2; x = (x + 1); if s[x] { x = 1; } }", []uint64{2}, api.ErrBounds, `
		0
		0 line
		0 line`)
	wantEnds(t, "fn f(x) -> x { stack s 2; while (s[x] == 0) { x = (x + 1); } }", []uint64{1}, api.ErrBounds, `
		0
		0 loop{}
		1 loop{if[1]+{}}
		1 loop{if[1]+{line}}
		2 loop{if[1]+{line}}`)
	wantEnds(t, "fn f(x) -> x { var i; stack s 2; for i 1 3 { s[i] = 1; } }", []uint64{1}, api.ErrBounds, `
		0
		0 for
		0 for{}
		0 for{line[1]}
		0 for{line[1]}{}
		0 for{line[1]}{}`)
	wantEnds(t, "fn g(x) -> x { array r 2; x = r[x]; } fn f(x) -> x { if x { x = g((x - 1)); x = g((x + 2)); } }", []uint64{1}, api.ErrBounds, `
		0
		0 if+{}
		0 if+{call{}}
		0 if+{call{line}}
		0 if+{call{line} call{}}
		0 if+{call{line} call{}}`)
}

// P8.1: an error in each place: what was leaked up to there is there, and nothing of the part in which it is.
func TestErrors(t *testing.T) {
	for _, c := range []struct{ text, leak string }{
		// A line: what was reckoned ahead, in the same one, is not told.
		{"x = s[x];", ""},
		{"x = r[x];", ""},
		{"x = k[x];", ""},
		{"x = (u[1] + s[x]);", ""},
		{"x = (s[x] + u[1]);", ""},
		{"x = u[s[x]];", ""},
		{"x = u[(u[1] + x)];", ""},
		{"x = pick(1, 2, s[x]);", ""},
		{"x = pick(0, s[x], 2);", ""},
		{"x = pick(s[x], 1, 2);", ""},
		{"x = ~-s[x];", ""},
		{"x = (0 * s[x]);", ""},
		{"s[x] = 1;", ""},
		{"r[x] = 1;", ""},
		{"k[x] = 1;", ""},
		{"s[x] = u[1];", ""},
		{"r[u[1]] = s[x];", ""},
		{"s[r[x]] = u[1];", ""},
		{"s[u[1]] = u[x];", ""},
		{"r[(x + u[1])] = u[2];", ""},
		// An if's condition; either way.
		{"if s[x] { y = 1; }", ""},
		{"if (u[1] + r[x]) { y = 1; } else { y = 2; }", ""},
		{"if u[1] { y = 1; } else { y = 2; s[x] = 1; y = 3; }", "if[1]{line}"},
		{"if (u[1] + x) { y = u[2]; y = r[x]; y = 3; } else { y = 2; }", "if[1]+{line[2]}"},
		{"if x { y = r[x]; }", "if+{}"},
		{"if x { if y { } else { s[x] = 1; } }", "if+{if{}}"},
		// A loop's condition, asked for the first time and later; its body.
		{"while s[x] { y = 1; }", "loop{}"},
		{"while (u[1] + s[x]) { y = 1; }", "loop{}"},
		{"u[1] = 1; while (u[1] + s[y]) { y = (y + 2); }", "line[1] loop{if[1 0]+{line} if[1 2]+{line}}"},
		{"while (u[y] == r[(y + 1)]) { y = (y + 1); }", "loop{if[0]+{line} if[1]+{line} if[2]+{line}}"},
		{"while (u[1] == 0) { y = (y + 1); y = s[y]; s[x] = 1; }", "loop{if[1]+{line line[1]}}"},
		{"while x { s[x] = 1; }", "loop{if+{}}"},
		{"while x { while s[x] { } }", "loop{if+{loop{}}}"},
		// A round.
		{"for i 2 7 { s[i] = 1; }", "for{line[2]}{line[3]}{}"},
		{"for i 3 5 { y = 1; r[i] = y; y = 2; }", "for{line line line}{line}"},
		{"for i 0 3 { while s[(i + 3)] { } }", "for{loop{if[3]{}}}{loop{}}"},
		{"for i 0 1 { for i2 4 5 { r[i2] = i; } }", "for{for{}}"},
		// A call's Args; its function's statements.
		{"x = g(s[x], 0);", ""},
		{"x = g(u[1], r[x]);", ""},
		{"x = g(u[2], u[x]);", ""},
		{"y = g(u[2], 4);", "call[2]{line[0 1] if{}}"},
		{"y = g(u[2], 3); y = g(x, u[1]);", "call[2]{line[0 1] if{line[3]}} call[1]{}"},
		{"y = h(3); y = h(4);", "call{loop{if+{call{line[0 1] if{line[3]}} line} if{}}} call{loop{if+{call{line[0 1] if{}}}}}"},
		{"for i 3 6 { if i { y = h(i); } }", "for{if+{call{loop{if+{call{line[0 1] if{line[3]}} line} if{}}}}}{if+{call{loop{if+{call{line[0 1] if{}}}}}}}"},
	} {
		text := "region k 0 2; fn g(a, b) -> a { stack t 4; a = (t[a] + k[1]); if (a == 5) { } else { t[b] = 1; } }" +
			" fn h(a) -> a { while a { a = g(0, a); a = 0; } }" +
			" fn f(x) -> x { var y; var i; var i2; array r 4; stack s 4; stack u 4; k[0] = x; " + c.text + " x = 1; }"
		p := program(t, text)
		x := ran(t, c.text, p, inputOf(p, 4), 100)
		if got, want := told(x.Leak), strings.TrimSpace("line[0] "+c.leak); got != want || x.Errno != api.ErrBounds {
			t.Errorf("%s:\n%v: %s\nnot %s", c.text, x.Errno, got, want)
		}
		if len(x.Out.Rets) > 0 || len(x.Out.Regions) > 0 {
			t.Errorf("%s: %v", c.text, x.Out)
		}
		wantEachStep(t, c.text, p, inputOf(p, 4), 100)
	}
}

// P8.1, P8.2: ErrBounds of each place that is not below the Size, for reading and for writing, of each kind of array.
func TestBounds(t *testing.T) {
	for _, size := range []uint64{1, 2, 7, 64, 512} {
		for _, kind := range []string{"array", "stack", "region"} {
			region, own := "", fmt.Sprint(kind, " a ", size, "; ")
			if kind == "region" {
				region, own = fmt.Sprint("region a 0 ", size, "; "), ""
			}
			read := program(t, region+"fn f(x) -> x { "+own+"x = a[x]; }")
			write := program(t, region+"fn f(x) -> x { "+own+"a[x] = 77; x = a[x]; }")
			for _, at := range []uint64{0, size / 2, size - 1, size, size + 1, 511, 512, 513, 1 << 16, 1 << 31, 1 << 32, 1<<32 + size - 1, 1 << 61, 1<<61 + size - 1, 1 << 63, greatest - 1, greatest} {
				what := fmt.Sprint(kind, " of ", size, " at ", at)
				wantAt(t, what, read, at, size, kind, 1, map[string]uint64{"region": 10 + at}[kind])
				wantAt(t, what, write, at, size, kind, 2, 77)
			}
		}
	}
}

// wantAt wants of a program that asks for a place that, where there is such a place, it takes so many steps, each of which leaks that, and answers x; else ErrBounds in its first step.
func wantAt(t *testing.T, what string, p api.Program, at, size uint64, kind string, steps int, x uint64) {
	t.Helper()
	got := ran(t, what, p, inputOf(p, at), 9)
	if at >= size {
		if !sameRan(got, api.Ran{Steps: 1, Errno: api.ErrBounds}) {
			t.Errorf("%s: %s", what, tellRan(got))
		}
		return
	}
	line := "line"
	if kind != "array" {
		line = fmt.Sprintf("line[%d]", at)
	}
	want := strings.TrimSpace(strings.Repeat(line+" ", steps))
	if got.Errno != api.OK || got.Steps != steps || told(got.Leak) != want || len(got.Out.Rets) != 1 || got.Out.Rets[0] != x {
		t.Errorf("%s: %s", what, tellRan(got))
	}
}
