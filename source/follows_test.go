package source_test

import (
	"fmt"
	"math/rand"
	"slices"
	"sync"
	"testing"

	"muffle/api"
	"muffle/scope"
	"muffle/source"
)

// maker makes programs that may be, and inputs that fit them; the same ones in each run.
type maker struct{ *rand.Rand }

// one is one of some, at hazard.
func one[T any](m maker, l ...T) T { return l[m.Intn(len(l))] }

// place is a word that is often a place of an array of four.
func (m maker) place() uint64 {
	if m.Intn(40) == 0 {
		return one(m, 4, 5, greatest, m.Uint64())
	}
	return uint64(m.Intn(4))
}

// inside is what a function that is made has: its words, those that may be set, those that may count here, and those functions that stand ahead.
type inside struct {
	words, set, count []string
	ahead             []api.Func
}

// index makes one that is often within an array of four.
func (m maker) index(in inside, deep int) api.Expr {
	if m.Intn(3) == 0 {
		return word(m.place())
	}
	return op(api.OpAnd, m.expr(in, deep), word(one[uint64](m, 3, 3, 3, 3, 3, 3, 3, 7)))
}

func (m maker) array() string { return one(m, "r", "s", "key", "out") }

func (m maker) expr(in inside, deep int) api.Expr {
	o := api.Op(1 + m.Intn(21))
	switch {
	case deep > 1 && (o == api.OpIndex || m.Intn(4) == 0):
		return index(m.array(), m.index(in, deep-1))
	case deep <= 1 || o == api.OpConst || o == api.OpVar:
		if m.Intn(3) == 0 {
			return word(one(m, uint64(m.Intn(5)), m.Uint64()))
		}
		return name(one(m, in.words...))
	}
	e := op(o)
	for range argsOf(o) {
		e.Args = append(e.Args, m.expr(in, deep-1))
	}
	return e
}

func argsOf(o api.Op) int {
	switch o {
	case api.OpNot, api.OpNeg:
		return 1
	case api.OpPick:
		return 3
	}
	return 2
}

func (m maker) stmts(in inside, deep int) stmts {
	var l stmts
	for range m.Intn(5) {
		l = append(l, m.stmt(in, deep))
	}
	return l
}

func (m maker) stmt(in inside, deep int) api.Stmt {
	e := func() api.Expr { return m.expr(in, 1+m.Intn(4)) }
	kind := api.StmtKind(1 + m.Intn(6))
	switch {
	case kind == api.StPut:
		return api.Stmt{Kind: kind, Name: m.array(), A: m.index(in, 2), E: e()}
	case kind == api.StIf && deep > 0:
		return api.Stmt{Kind: kind, E: e(), Body: m.stmts(in, deep-1), Else: m.stmts(in, deep-1)}
	case kind == api.StWhile && deep > 0:
		return api.Stmt{Kind: kind, E: e(), Body: m.stmts(in, deep-1)}
	case kind == api.StFor && deep > 0 && len(in.count) > 0:
		low, inner := uint64(m.Intn(3)), in
		inner.count = in.count[1:]
		return api.Stmt{Kind: kind, Name: in.count[0], Low: low, High: low + uint64(m.Intn(4)), Body: m.stmts(inner, deep-1)}
	case kind == api.StCall && len(in.ahead) > 0:
		f := one(m, in.ahead...)
		s := api.Stmt{Kind: kind, Name: f.Name}
		for range f.Params {
			s.Args = append(s.Args, e())
		}
		for _, i := range m.Perm(len(in.set))[:len(f.Rets)] {
			s.Names = append(s.Names, in.set[i])
		}
		return s
	}
	return api.Stmt{Kind: api.StSet, Name: one(m, in.set...), E: e()}
}

// program makes a program of one to four functions.
func (m maker) program() api.Program {
	p := api.Program{Regions: []api.Region{{Name: "key", Addr: 128, Size: 4, Secret: true}, {Name: "out", Addr: 8, Size: 4}}}
	reg := func(s string) api.Var { return api.Var{Name: s, Kind: api.VarReg} }
	for i := range 1 + m.Intn(4) {
		f := api.Func{Name: fmt.Sprint("f", i), Params: []api.Var{reg("p"), reg("q")}[:m.Intn(3)]}
		f.Vars = []api.Var{reg("x"), reg("y"), {Name: "r", Kind: api.VarArray, Size: 4}, reg("i"), reg("j"), {Name: "s", Kind: api.VarStack, Size: 4}}
		in := inside{words: []string{"x", "y", "i", "j"}, set: []string{"x", "y"}, count: []string{"i", "j"}, ahead: p.Funcs}
		for _, v := range f.Params {
			in.words, in.set = append(in.words, v.Name), append(in.set, v.Name)
		}
		for _, k := range m.Perm(len(in.set))[:m.Intn(3)] {
			f.Rets = append(f.Rets, in.set[k])
		}
		for len(f.Body) == 0 {
			f.Body = m.stmts(in, 3)
		}
		p.Funcs = append(p.Funcs, f)
	}
	return p
}

func (m maker) input(p api.Program) api.Input {
	in := api.Input{Args: make([]uint64, len(p.Funcs[len(p.Funcs)-1].Params)), Regions: [][]uint64{make([]uint64, 4), make([]uint64, 4)}}
	for _, l := range [][]uint64{in.Args, in.Regions[0], in.Regions[1]} {
		for i := range l {
			l[i] = one(m, 0, 1, 2, 3, m.Uint64())
		}
	}
	return in
}

// P8.1, P8.3, P8.4: made programs, with each number of steps, held against the model.
func TestMade(t *testing.T) {
	m := maker{rand.New(rand.NewSource(81))}
	ends, kinds := map[api.Errno]int{}, map[api.LeakKind]int{}
	for i := range 1200 {
		p := m.program()
		if errno := scope.May(p); errno != api.OK {
			t.Fatal(errno, p)
		}
		in := m.input(p)
		what := fmt.Sprint("program ", i)
		wantEachStep(t, what, p, in, 60)
		x := ran(t, what, p, in, 3000)
		ends[x.Errno]++
		countKinds(x.Leak, kinds)
		if want := modelRun(p, in, 3000); !sameRan(x, want) {
			t.Fatalf("%s:\n%s, not\n%s", what, tellRan(x), tellRan(want))
		}
		n := 0
		for k, x := range source.Steps(p, in, 40) {
			if want := modelRun(p, in, n); k != n || !sameRan(x, want) {
				t.Fatalf("%s, Steps: %d, %s, not %d, %s", what, k, tellRan(x), n, tellRan(want))
			}
			n++
		}
		if n != min(40, x.Steps)+1 {
			t.Fatalf("%s, Steps: %d runs", what, n)
		}
	}
	for _, e := range []api.Errno{api.OK, api.ErrFuel, api.ErrBounds} {
		if ends[e] < 100 {
			t.Error("too few:", e, ends[e])
		}
	}
	for kind := api.LeakLine; kind <= api.LeakCall; kind++ {
		if kinds[kind] < 300 {
			t.Error("too few of the kind", kind, kinds[kind])
		}
	}
}

func countKinds(l []api.Leak, kinds map[api.LeakKind]int) {
	for _, n := range l {
		kinds[n.Kind]++
		for _, sub := range n.Subs {
			countKinds(sub, kinds)
		}
	}
}

// P8.2: made expressions, of words and arrays at hazard, held against the model; and against the run of a function that has just that.
func TestEvalMade(t *testing.T) {
	m := maker{rand.New(rand.NewSource(82))}
	reg := func(s string) api.Var { return api.Var{Name: s, Kind: api.VarReg} }
	p := api.Program{
		Regions: []api.Region{{Name: "key", Addr: 0, Size: 4}, {Name: "out", Addr: 64, Size: 4}},
		Funcs:   []api.Func{{Name: "f", Params: []api.Var{reg("x"), reg("y")}, Vars: []api.Var{reg("z"), {Name: "r", Kind: api.VarArray, Size: 4}, {Name: "s", Kind: api.VarStack, Size: 4}}, Rets: []string{"z"}}},
	}
	told := map[api.Errno]int{}
	for range 5000 {
		e := m.expr(inside{words: []string{"x", "y"}}, 1+m.Intn(6))
		w, a := words{"x": m.place(), "y": m.Uint64()}, arrays{}
		for _, n := range []string{"r", "s", "key", "out"} {
			a[n] = []uint64{m.place(), m.place(), m.place(), m.Uint64()}
		}
		f := modelFrame{w, a, map[string]bool{"s": true, "key": true, "out": true}}
		want, places, errno := f.expr(e)
		told[errno]++
		wantEval(t, "a made one", p, 0, e, w, a, want, places, errno)
		// Its own arrays a function finds as 0s.
		a["r"], a["s"] = make([]uint64, 4), make([]uint64, 4)
		want, places, errno = source.Eval(p, 0, e, w, a)
		p.Funcs[0].Body = stmts{{Kind: api.StSet, Name: "z", E: e}}
		x := ran(t, "a run of it", p, api.Input{Args: []uint64{w["x"], w["y"]}, Regions: [][]uint64{a["key"], a["out"]}}, 1)
		p.Funcs[0].Body = nil
		if x.Errno != errno || errno == api.OK && (x.Out.Rets[0] != want || !slices.Equal(x.Leak[0].Items, places)) {
			t.Fatalf("%s; not %d, %v, %v", tellRan(x), want, places, errno)
		}
	}
	if told[api.OK] < 1000 || told[api.ErrBounds] < 100 {
		t.Error("too few:", told)
	}
}

// P8.4, P0.5: of an endless program: as many steps as are given are taken, and the conditions of its loops, not its rounds and statements, are counted.
func TestEndless(t *testing.T) {
	p := program(t, "fn g(x) -> x { var i; while (x & 3) { x = (x + 1); } for i 0 2 { } } fn f(x) -> x { while 1 { x = g((x + 1)); if x { } } }")
	in := api.Input{Args: []uint64{1}}
	var before api.Ran
	for fuel := range 400 {
		x := ran(t, "endless", p, in, fuel)
		if x.Errno != api.ErrFuel || x.Steps != fuel || x.Asked != asked(x.Leak) {
			t.Fatal(fuel, tellRan(x), asked(x.Leak))
		}
		if x.Asked < before.Asked || x.Asked > before.Asked+1 {
			t.Fatal(fuel, x.Asked, before.Asked)
		}
		if fuel > 0 {
			wantBeginning(t, fmt.Sprint("endless, with ", fuel), before, x)
		}
		before = x
	}
}

// asked is how often a leakage has the asking of a loop.
func asked(l []api.Leak) int {
	n := 0
	for _, x := range l {
		if x.Kind == api.LeakLoop {
			n += len(x.Subs[0])
		}
		for _, sub := range x.Subs {
			n += asked(sub)
		}
	}
	return n
}

// P0.7, P0.8: what nests as deep as may be: functions that call each other, each from within as many statements as there may be.
func TestDeepest(t *testing.T) {
	var p api.Program
	for i := range api.MaxFuncs {
		f := api.Func{Name: fmt.Sprint("f", i), Params: []api.Var{{Name: "x", Kind: api.VarReg}}, Rets: []string{"x"}}
		f.Body = stmts{{Kind: api.StSet, Name: "x", E: op(api.OpAdd, name("x"), word(1))}}
		if i > 0 {
			f.Body = append(f.Body, api.Stmt{Kind: api.StCall, Name: fmt.Sprint("f", i-1), Args: exprs{name("x")}, Names: []string{"x"}})
		}
		for range api.MaxNest - 2 {
			f.Body = stmts{{Kind: api.StIf, E: name("x"), Body: f.Body}}
		}
		p.Funcs = append(p.Funcs, f)
	}
	x := ran(t, "the deepest", p, api.Input{Args: []uint64{1}}, api.MaxFuel)
	deep := 0
	for l := x.Leak; len(l) > 0; deep++ {
		n := l[len(l)-1]
		if l = nil; len(n.Subs) > 0 {
			l = n.Subs[0]
		}
	}
	if x.Errno != api.OK || !slices.Equal(x.Out.Rets, []uint64{33}) || x.Steps != 32*(api.MaxNest-2)+63 || deep != 32*(api.MaxNest-2)+32 {
		t.Error(x.Errno, x.Out, x.Steps, deep)
	}
	if x = ran(t, "one step fewer", p, api.Input{Args: []uint64{1}}, x.Steps-1); x.Errno != api.ErrFuel || len(x.Out.Rets) > 0 {
		t.Error(x.Errno, x.Out)
	}
}

// P0.7, P0.8: a call costs no more than what is done in it, however many variables the function has.
func TestManyVars(t *testing.T) {
	g := api.Func{Name: "g", Body: stmts{{Kind: api.StPut, Name: "v7", A: word(511), E: word(1)}}}
	for i := range api.MaxVars {
		g.Vars = append(g.Vars, api.Var{Name: fmt.Sprint("v", i), Kind: api.VarArray, Size: api.MaxWords})
	}
	p := program(t, "fn g() { } fn f() { while 1 { g(); } }")
	p.Funcs[0] = g
	x := ran(t, "calls", p, api.Input{}, api.MaxFuel)
	if x.Errno != api.ErrFuel || x.Steps != api.MaxFuel || x.Asked != 333333 {
		t.Error(x.Errno, x.Steps, x.Asked)
	}
}

// P8.1 to P8.3: calls at one time do not meet.
func TestAtOneTime(t *testing.T) {
	p := program(t, "region k 0 2; fn g(x) -> y { var y; stack s 2; s[0] = k[1]; y = (s[0] + x); } fn f(x) -> x { while (x < 50) { k[1] = x; x = g(x); } }")
	in := inputOf(p, 3)
	want := tellRan(ran(t, "one alone", p, in, 200))
	seq := source.Steps(p, in, 200)
	var all sync.WaitGroup
	for range 8 {
		all.Go(func() {
			for range 20 {
				if x, errno := source.Run(p, in, 200); errno != api.OK || tellRan(x) != want {
					t.Error(errno, tellRan(x))
				}
			}
			var last api.Ran
			for _, x := range seq {
				last = x
			}
			if tellRan(last) != want {
				t.Error(tellRan(last))
			}
			if x, _, errno := source.Eval(p, 1, index("k", name("x")), words{"x": 1}, arrays{"k": {0, 9}}); x != 9 || errno != api.OK {
				t.Error(x, errno)
			}
		})
	}
	all.Wait()
}
