package source_test

import (
	"fmt"
	"testing"

	"muffle/api"
	"muffle/scope"
	"muffle/source"
)

// wantSteps wants that Steps goes over just so many runs, each of which is Run's; each time that it is gone through, and as far as it is.
func wantSteps(t *testing.T, what string, p api.Program, in api.Input, fuel, runs int) {
	t.Helper()
	seq := source.Steps(p, in, fuel)
	through := func(most int) {
		n := 0
		for i, x := range seq {
			want := ran(t, what, p, in, n)
			if i != n || !sameRan(x, want) {
				t.Fatalf("%s: run %d: %d, %s, not %s", what, n, i, tellRan(x), tellRan(want))
			}
			if n++; n == most {
				break
			}
		}
		if n != min(most, runs) {
			t.Fatalf("%s: %d runs, not %d", what, n, min(most, runs))
		}
	}
	through(runs + 1)
	for most := 1; most <= runs+1; most++ {
		through(most)
	}
	through(runs + 1)
}

// P8.3: up to fuel, or up to the first run that does not break off.
func TestSteps(t *testing.T) {
	for _, c := range []struct {
		text  string
		takes int // -1: it does not end
	}{
		{"fn f(x) -> x { }", 0},
		{"fn f(x) -> x { x = 1; }", 1},
		{"fn f(x) -> x { while x { x = (x - 1); } }", 8},
		{"region k 0 2; fn g(x) -> x { k[x] = x; } fn f(x) -> x { var i; for i 0 2 { x = g(i); } if x { x = 7; } }", 9},
		{"region k 0 2; fn f(x) -> x { while x { x = (x - 1); k[x] = 1; } }", 4},
		{"fn f(x) -> x { stack s 2; s[x] = 1; }", 1},
		{"fn f(x) -> x { while 1 { } }", -1},
		{"fn f(x) -> x { while x { x = (x + 1); } }", -1},
	} {
		p := program(t, c.text)
		in := inputOf(p, 3)
		for _, fuel := range []int{0, 1, 2, 3, 4, 5, 7, 8, 9, 10, 12} {
			runs := fuel + 1
			if c.takes >= 0 {
				runs = min(runs, c.takes+1)
			}
			wantSteps(t, fmt.Sprintf("%s, up to %d", c.text, fuel), p, in, fuel, runs)
		}
		if c.takes >= 0 {
			wantSteps(t, c.text+", up to as many as may be", p, in, api.MaxFuel, c.takes+1)
		}
	}
}

// P8.3: nothing, where Run is refused.
func TestNoSteps(t *testing.T) {
	p := program(t, "region k 0 2; fn f(x) -> x { }")
	in := inputOf(p, 3)
	for _, fuel := range []int{-1, -1 << 63, api.MaxFuel + 1, 1<<63 - 1} {
		wantRefused(t, "fuel", p, in, fuel)
	}
	wantRefused(t, "no input", p, api.Input{}, 9)
	wantRefused(t, "no program", api.Program{}, api.Input{}, 9)
	seq := source.Steps(p, api.Input{}, 9)
	for range 3 {
		for range seq {
			t.Error("a run of no input")
		}
	}
}

// P8.3: it may be left at any time; of an endless program with as much fuel as may be, too.
func TestStepsLeft(t *testing.T) {
	p := program(t, "fn f() { while 1 { } }")
	for _, most := range []int{1, 2, 50} {
		n := 0
		for i, x := range source.Steps(p, api.Input{}, api.MaxFuel) {
			if i != n || x.Steps != n || x.Errno != api.ErrFuel {
				t.Fatal(i, n, tellRan(x))
			}
			if n++; n == most {
				break
			}
		}
		if n != most {
			t.Error(n, most)
		}
	}
	// One within the other.
	seq := source.Steps(p, api.Input{}, 3)
	n := 0
	for i := range seq {
		for k, x := range seq {
			if x.Steps != k {
				t.Error(i, k, x.Steps)
			}
			n++
		}
	}
	if n != 16 {
		t.Error(n)
	}
}

// P8.3, and DOC.md's rules: it is of what was handed in, whatever becomes of that, and of what was answered.
func TestStepsAreKept(t *testing.T) {
	const text = "region k 0 2; fn f(x) -> x { k[1] = x; while k[1] { k[1] = (k[1] - 1); x = (x + k[0]); } }"
	p := program(t, text)
	in := inputOf(p, 2)
	var want []string
	for _, x := range source.Steps(p, in, 50) {
		want = append(want, tellRan(x))
	}
	if len(want) != 2+3+4+1 {
		t.Error(len(want))
	}
	wantKept := func(what string, change func(x api.Ran)) {
		t.Helper()
		wasP, wasIn := scope.Clone(p), cloneInput(in)
		seq := source.Steps(p, in, 50)
		for range 2 {
			n := 0
			for i, x := range seq {
				if got := tellRan(x); i != n || got != want[i] {
					t.Fatalf("%s: %d: %s, not %s", what, i, got, want[i])
				}
				n++
				change(x)
			}
			if n != len(want) {
				t.Errorf("%s: %d", what, n)
			}
		}
		p, in = wasP, wasIn
	}
	wantKept("as it was", func(api.Ran) {})
	wantKept("an answer", func(x api.Ran) {
		overwrite(x.Leak)
		for _, l := range append([][]uint64{x.Out.Rets}, x.Out.Regions...) {
			for i := range l {
				l[i] = 77
			}
		}
	})
	wantKept("an Arg", func(api.Ran) { in.Args[0]++ })
	wantKept("a region's word", func(api.Ran) { in.Regions[0][0]++ })
	wantKept("a region", func(api.Ran) { in.Regions[0] = nil })
	wantKept("a statement", func(api.Ran) { p.Funcs[0].Body[1].Body[0].E.Args[1].Word++ })
	wantKept("statements", func(api.Ran) { p.Funcs[0].Body[1] = api.Stmt{} })
	wantKept("the region's Size", func(api.Ran) { p.Regions[0].Size = 1 })
	wantKept("the function", func(api.Ran) { p.Funcs[0] = api.Func{} })
	// Changed ahead of its being gone through for the first time.
	seq := source.Steps(p, in, 50)
	in.Args[0], in.Regions[0][0], p.Funcs[0].Body[0].E, p.Regions[0] = 5, 5, word(9), api.Region{}
	n := 0
	for i, x := range seq {
		if got := tellRan(x); got != want[i] {
			t.Errorf("%d: %s, not %s", i, got, want[i])
		}
		n++
	}
	if n != len(want) {
		t.Error(n)
	}
}
