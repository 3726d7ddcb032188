package source_test

import (
	"fmt"
	"testing"

	"muffle/api"
)

// P8.1: the places of a statement, in the order in which they are leaked, and in which node.
func TestPlaces(t *testing.T) {
	// s has 3, 2, 1, 0; r has 2, 3; the region k has 10, 11, 12, 13; x is 1.
	const ahead = "region k 0 4; fn g(a, b, c) -> b { } fn f(x) -> x { var y; var i; array r 2; stack s 4; r[0] = 2; r[1] = 3; s[0] = 3; s[1] = 2; s[2] = 1; "
	for _, c := range []struct{ text, leak string }{
		{"y = 5;", "line"},
		{"y = (x + y);", "line"},
		{"y = s[x];", "line[1]"},
		{"y = k[(x + 2)];", "line[3]"},
		{"y = r[x];", "line"},
		{"y = s[s[1]];", "line[1 2]"},
		{"y = s[s[s[s[3]]]];", "line[3 0 3 0]"},
		{"y = s[r[0]];", "line[2]"},
		{"y = r[s[3]];", "line[3]"},
		{"y = r[s[s[0]]];", "line[0 3]"},
		{"y = (s[1] + s[2]);", "line[1 2]"},
		{"y = (s[2] + s[1]);", "line[2 1]"},
		{"y = (s[2] - k[2]);", "line[2 2]"},
		{"y = ((s[0] * r[1]) ^ (s[1] | s[0]));", "line[0 1 0]"},
		{"y = -~s[3];", "line[3]"},
		// All three of a pick, whichever it is.
		{"y = pick(s[3], s[1], s[2]);", "line[3 1 2]"},
		{"y = pick(s[0], s[1], s[2]);", "line[0 1 2]"},
		{"y = pick(s[0], r[0], pick(0, k[3], s[0]));", "line[0 3 0]"},
		// What comes to nothing in the end is reckoned, too.
		{"y = (0 * s[2]);", "line[2]"},
		{"y = (0 & s[s[2]]);", "line[2 1]"},
		{"y = (s[2] == s[2]);", "line[2 2]"},
		// Of a StPut: its A, then its E, then its own place.
		{"s[2] = 7;", "line[2]"},
		{"k[x] = 7;", "line[1]"},
		{"r[x] = 7;", "line"},
		{"s[s[1]] = k[3];", "line[1 3 2]"},
		{"k[s[1]] = s[0];", "line[1 0 2]"},
		{"r[s[2]] = s[0];", "line[2 0]"},
		{"s[r[0]] = r[1];", "line[2]"},
		{"s[(s[1] - s[2])] = (s[0] - s[3]);", "line[1 2 0 3 1]"},
		{"s[s[0]] = s[s[0]];", "line[0 0 3 3]"},
		// Of a branch: its condition's.
		{"if (s[1] + r[0]) { y = s[0]; } else { y = s[2]; }", "if[1]+{line[0]}"},
		{"if (s[3] + s[s[0]]) { y = s[0]; } else { y = s[2]; }", "if[3 0 3]{line[2]}"},
		{"if r[0] { }", "if+{}"},
		{"if k[0] { } else { s[0] = 1; }", "if[0]+{}"},
		// Of a loop: each time's own.
		{"while s[y] { y = (y + 1); }", "loop{if[0]+{line} if[1]+{line} if[2]+{line} if[3]{}}"},
		{"while (s[y] * k[y]) { y = (y + r[0]); s[2] = 0; }", "loop{if[0 0]+{line line[2]} if[2 2]{}}"},
		{"while (r[0] - y) { y = (y + 1); }", "loop{if+{line} if+{line} if{}}"},
		{"for i 1 3 { y = s[i]; r[(i - 1)] = i; }", "for{line[1] line}{line[2] line}"},
		// Of a call: its arguments', from the first on.
		{"y = g(1, 2, 3);", "call{}"},
		{"y = g(s[2], r[1], s[1]);", "call[2 1]{}"},
		{"y = g((s[2] + k[3]), s[s[1]], k[0]);", "call[2 3 1 2 0]{}"},
		// More than one of each.
		{"y = s[0]; if s[3] { } y = r[0]; s[3] = 4;", "line[0] if[3]{} line line[3]"},
	} {
		p := program(t, ahead+c.text+" }")
		in := inputOf(p, 1)
		x := ran(t, c.text, p, in, 100)
		if got, want := told(x.Leak), "line line line[0] line[1] line[2] "+c.leak; got != want || x.Errno != api.OK {
			t.Errorf("%s:\n%v: %s\nnot %s", c.text, x.Errno, got, want)
		}
		wantEachStep(t, c.text, p, in, 100)
	}
}

// P8.1: what is leaked by a StPut is leaked, and what is put is there, be it within its own array; the words are those from ahead of it.
func TestPutWithin(t *testing.T) {
	for _, kind := range []string{"array", "stack"} {
		p := program(t, fmt.Sprintf("fn f(x) -> x, y, z { var y; var z; %s s 3; s[0] = 1; s[1] = 2; s[2] = 5; s[s[s[0]]] = (s[2] + s[s[0]]); s[s[0]] = s[s[1]]; x = s[0]; y = s[1]; z = s[2]; }", kind))
		x := ran(t, kind, p, inputOf(p, 0), 100)
		// s[2] = 5 + 2; s[1] = s[2] = 7.
		if x.Errno != api.OK || fmt.Sprint(x.Out.Rets) != "[1 7 7]" {
			t.Errorf("%s: %s", kind, tellRan(x))
		}
		want := "line[0] line[1] line[2] line[0 1 2 0 1 2] line[0 1 2 1] line[0] line[1] line[2]"
		if kind == "array" {
			want = "line line line line line line line line"
		}
		if got := told(x.Leak); got != want {
			t.Errorf("%s: %s, not %s", kind, got, want)
		}
	}
}
