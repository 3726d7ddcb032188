package scope_test

import (
	"testing"

	"muffle/api"
	"muffle/scope"
)

func wantForm(t *testing.T, what string, p api.Program, want api.Form) {
	t.Helper()
	if got := scope.Form(p); got != want {
		t.Errorf("%s: %v, not %v", what, got, want)
	}
}

// P7.2: Form, of each of its four parts, and of any of them together.
func TestForm(t *testing.T) {
	loop := rounds("i", 0, 0)
	for i := range 16 {
		want := api.Form{Calls: i&1 > 0, Fors: i&2 > 0, Arrays: i&4 > 0, Stack: i&8 > 0}
		f := api.Func{Name: "main", Vars: vars{reg("i")}}
		p := api.Program{}
		if want.Calls {
			p.Funcs = []api.Func{{Name: "f"}}
			f.Body = append(f.Body, call(nil, "f"))
		}
		if want.Fors {
			f.Body = append(f.Body, loop)
		}
		if want.Arrays {
			f.Vars = append(f.Vars, array("r", 1))
		}
		if want.Stack {
			f.Vars = append(f.Vars, stack("s", 1))
		}
		p.Funcs = append(p.Funcs, f)
		wantForm(t, "one", p, want)
		// More than one function are as a call; a region is as an array on the stack.
		p.Funcs = append(p.Funcs, api.Func{Name: "g"})
		want.Calls = true
		wantForm(t, "one with another function", p, want)
		p.Regions = []api.Region{{Name: "key", Size: 1}}
		want.Stack = true
		wantForm(t, "one with a region", p, want)
	}
	for _, wrap := range wraps() {
		wantForm(t, "a loop within", alone(within(63, loop, wrap)), api.Form{Fors: true, Arrays: true})
	}
	wantForm(t, "a loop without end", api.Program{Funcs: []api.Func{{Name: "f", Body: stmts{while(word(1))}}}}, api.Form{})
	wantForm(t, "everything", whole(), api.Form{Calls: true, Fors: true, Arrays: true, Stack: true})
}

// P7.2: Form of what may not be: none.
func TestNoForm(t *testing.T) {
	wantForm(t, "nothing", api.Program{}, api.Form{})
	wantForm(t, "a region alone", api.Program{Regions: whole().Regions}, api.Form{})
	p := whole()
	eachChange(&p, func(what string) {
		if modelMay(p) != api.OK {
			wantForm(t, what, p, api.Form{})
		} else if !scope.Form(p).Stack {
			t.Error(what, "is taken for one that may not be")
		}
	})
}

func wantFind(t *testing.T, p api.Program, f int, name string, want api.Var, wantIs, wantRegion bool) {
	t.Helper()
	if v, is, region := scope.Find(p, f, name); v != want || is != wantIs || region != wantRegion {
		t.Errorf("%q in %d: %v, %v, %v; not %v, %v, %v", name, f, v, is, region, want, wantIs, wantRegion)
	}
}

// P7.2: Find.
func TestFind(t *testing.T) {
	p := whole()
	for f, fn := range p.Funcs {
		for _, v := range append(append(vars{}, fn.Params...), fn.Vars...) {
			wantFind(t, p, f, v.Name, v, true, false)
		}
		wantFind(t, p, f, "key", api.Var{Name: "key", Kind: api.VarStack, Size: 4, Secret: true}, true, true)
		wantFind(t, p, f, "out", api.Var{Name: "out", Kind: api.VarStack, Size: 16}, true, true)
		for _, n := range []string{"", "z", "for", "main", "one", "key_", "KEY"} {
			wantFind(t, p, f, n, api.Var{}, false, false)
		}
	}
	// A function's name may be a variable's.
	wantFind(t, p, 0, "none", api.Var{}, false, false)
	wantFind(t, p, 2, "none", reg("none"), true, false)
	wantFind(t, p, 1, "y", api.Var{}, false, false)
	for _, f := range []int{-1, 4, 5, -1 << 63, 1<<63 - 1} {
		for _, n := range []string{"x", "a", "key", ""} {
			wantFind(t, p, f, n, api.Var{}, false, false)
		}
	}
	wantFind(t, api.Program{}, 0, "x", api.Var{}, false, false)
	wantFind(t, api.Program{Regions: p.Regions}, 0, "key", api.Var{}, false, false)
}

// P7.2: Find in what may not be: the first one, of several; a region, if the function has none.
func TestFindFirst(t *testing.T) {
	odd := api.Var{Name: "", Kind: -7, Size: -1, Secret: true}
	p := api.Program{
		Regions: []api.Region{{Name: "x", Addr: 4, Size: 1}, {Name: "y", Addr: -8, Size: -3, Secret: true}, {Name: "y", Size: 7}, {Name: "f", Size: 5}},
		Funcs: []api.Func{
			{Name: "f", Params: vars{reg("a"), array("x", 2), stack("x", 3)}, Vars: vars{odd, stack("x", 4), stack("a", 5), array("b", 6), {Name: "b", Kind: 9}}},
			{Name: "f", Vars: vars{stack("x", 7), array("x", 8)}},
		},
	}
	wantFind(t, p, 0, "x", array("x", 2), true, false)
	wantFind(t, p, 0, "a", reg("a"), true, false)
	wantFind(t, p, 0, "b", array("b", 6), true, false)
	wantFind(t, p, 0, "", odd, true, false)
	wantFind(t, p, 1, "x", stack("x", 7), true, false)
	wantFind(t, p, 1, "y", api.Var{Name: "y", Kind: api.VarStack, Size: -3, Secret: true}, true, true)
	// A name that both a function and a region have.
	wantFind(t, p, 1, "f", stack("f", 5), true, true)
	wantFind(t, p, 1, "a", api.Var{}, false, false)
	wantFind(t, p, 1, "", api.Var{}, false, false)
	wantFind(t, p, 2, "x", api.Var{}, false, false)
}
