package source_test

import (
	"fmt"
	"slices"
	"strings"
	"testing"

	"muffle/api"
	"muffle/leak"
	"muffle/parse"
	"muffle/scope"
	"muffle/source"
)

type (
	exprs = []api.Expr
	stmts = []api.Stmt
)

// greatest is the greatest word.
const greatest = 1<<64 - 1

func word(x uint64) api.Expr {
	return api.Expr{Op: api.OpConst, Word: x}
}

func name(s string) api.Expr {
	return api.Expr{Op: api.OpVar, Name: s}
}

func index(s string, at api.Expr) api.Expr {
	return api.Expr{Op: api.OpIndex, Name: s, Args: exprs{at}}
}

func op(o api.Op, args ...api.Expr) api.Expr {
	return api.Expr{Op: o, Args: args}
}

// program is a text's.
func program(t *testing.T, text string) api.Program {
	t.Helper()
	p, fault := parse.Parse(text)
	if fault != (api.Fault{}) {
		t.Fatalf("%v in %s", fault, text)
	}
	if errno := scope.May(p); errno != api.OK {
		t.Fatalf("%v of %s", errno, text)
	}
	return p
}

func expr(t *testing.T, text string) api.Expr {
	t.Helper()
	e, fault := parse.Expr(text)
	if fault != (api.Fault{}) {
		t.Fatalf("%v in %s", fault, text)
	}
	return e
}

// inputOf is an input with these Args; the first region has 10, 11, .., the second one 20, 21, .., and so on.
func inputOf(p api.Program, args ...uint64) api.Input {
	in := api.Input{Args: args}
	for i, r := range p.Regions {
		words := make([]uint64, r.Size)
		for k := range words {
			words[k] = uint64(10*(i+1) + k)
		}
		in.Regions = append(in.Regions, words)
	}
	return in
}

func cloneInput(in api.Input) api.Input {
	out := api.Input{Args: slices.Clone(in.Args)}
	for _, l := range in.Regions {
		out.Regions = append(out.Regions, slices.Clone(l))
	}
	return out
}

func sameLists(a, b [][]uint64) bool {
	return slices.EqualFunc(a, b, slices.Equal[[]uint64])
}

func sameRan(a, b api.Ran) bool {
	return slices.Equal(a.Out.Rets, b.Out.Rets) && sameLists(a.Out.Regions, b.Out.Regions) && leak.Same(a.Leak, b.Leak) &&
		a.Steps == b.Steps && a.Asked == b.Asked && a.Errno == b.Errno
}

// told is a leakage as a text that has all of its fields.
func told(l []api.Leak) string {
	kinds := map[api.LeakKind]string{api.LeakLine: "line", api.LeakIf: "if", api.LeakLoop: "loop", api.LeakFor: "for", api.LeakCall: "call"}
	var parts []string
	for _, n := range l {
		s, is := kinds[n.Kind]
		if !is {
			s = fmt.Sprint("kind ", n.Kind)
		}
		if len(n.Items) > 0 {
			s += fmt.Sprint(n.Items)
		}
		if n.Taken {
			s += "+"
		}
		for _, sub := range n.Subs {
			s += "{" + told(sub) + "}"
		}
		parts = append(parts, s)
	}
	return strings.Join(parts, " ")
}

// tellRan is a run as a text that has all of its fields.
func tellRan(x api.Ran) string {
	return fmt.Sprintf("%v %v; %s; %d steps, %d asked; %v", x.Out.Rets, x.Out.Regions, told(x.Leak), x.Steps, x.Asked, x.Errno)
}

// ran is the run, which may not be refused, and leaves what it is handed as it was.
func ran(t *testing.T, what string, p api.Program, in api.Input, fuel int) api.Ran {
	t.Helper()
	wasP, wasIn := scope.Clone(p), cloneInput(in)
	x, errno := source.Run(p, in, fuel)
	if errno != api.OK {
		t.Fatalf("%s: refused: %v", what, errno)
	}
	if !scope.Same(p, wasP) || !slices.Equal(in.Args, wasIn.Args) || !sameLists(in.Regions, wasIn.Regions) {
		t.Fatalf("%s: what was handed in is changed", what)
	}
	return x
}

// wantRefused wants ErrArg of Run, and that Steps goes over nothing.
func wantRefused(t *testing.T, what string, p api.Program, in api.Input, fuel int) {
	t.Helper()
	x, errno := source.Run(p, in, fuel)
	if errno != api.ErrArg || !sameRan(x, api.Ran{}) {
		t.Errorf("%s: %v, %v", what, errno, tellRan(x))
	}
	seq := source.Steps(p, in, fuel)
	if seq == nil {
		t.Fatalf("%s: nothing to go over", what)
	}
	for i, x := range seq {
		t.Errorf("%s: Steps: %d, %v", what, i, tellRan(x))
		return
	}
}

// beginning tells whether a leakage that may have been broken off begins another one.
func beginning(a, b []api.Leak) bool {
	if len(a) > len(b) {
		return false
	}
	for i, n := range a {
		if i < len(a)-1 {
			if !leak.Same(a[i:i+1], b[i:i+1]) {
				return false
			}
			continue
		}
		if n.Kind != b[i].Kind || n.Taken != b[i].Taken || !slices.Equal(n.Items, b[i].Items) || len(n.Subs) > len(b[i].Subs) {
			return false
		}
		for k, sub := range n.Subs {
			last := k == len(n.Subs)-1
			if last && !beginning(sub, b[i].Subs[k]) || !last && !leak.Same(sub, b[i].Subs[k]) {
				return false
			}
		}
	}
	return true
}

// wantBeginning wants that the run with fewer steps leaks a beginning of what the other one leaks: as a tree, and flat.
func wantBeginning(t *testing.T, what string, fewer, more api.Ran) {
	t.Helper()
	if !beginning(fewer.Leak, more.Leak) {
		t.Fatalf("%s: %s begins not %s", what, told(fewer.Leak), told(more.Leak))
	}
	a, errno := leak.Flat(fewer.Leak)
	b, other := leak.Flat(more.Leak)
	if errno != api.OK || other != api.OK || !leak.Prefix(a, b) {
		t.Fatalf("%s: %v, %v: %v begins not %v", what, errno, other, a, b)
	}
}

// wantEachStep holds the runs with each number of steps, up to most or to some more than the run takes, against the model's, and wants what P8.4 says of them.
func wantEachStep(t *testing.T, what string, p api.Program, in api.Input, most int) {
	t.Helper()
	var before api.Ran
	for fuel, behind := 0, 0; fuel <= most && behind < 4; fuel++ {
		at := fmt.Sprintf("%s, with %d steps", what, fuel)
		x := ran(t, at, p, in, fuel)
		if want := modelRun(p, in, fuel); !sameRan(x, want) {
			t.Fatalf("%s:\n%s, not\n%s", at, tellRan(x), tellRan(want))
		}
		if x.Steps > fuel || x.Asked > x.Steps || x.Errno == api.ErrFuel && x.Steps != fuel {
			t.Fatalf("%s: %d steps, %d asked, %v", at, x.Steps, x.Asked, x.Errno)
		}
		if !leak.May(x.Leak) {
			t.Fatalf("%s: %s may not be", at, told(x.Leak))
		}
		if behind > 0 && !sameRan(x, before) {
			t.Fatalf("%s:\n%s, not as with fewer:\n%s", at, tellRan(x), tellRan(before))
		}
		if fuel > 0 {
			wantBeginning(t, at, before, x)
		}
		if x.Errno != api.ErrFuel {
			behind++
		}
		before = x
	}
}
