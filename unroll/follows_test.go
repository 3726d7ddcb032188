package unroll_test

import (
	"fmt"
	"math/rand"
	"slices"
	"testing"

	"muffle/api"
	"muffle/leak"
	"muffle/scope"
	"muffle/source"
	"muffle/unroll"
)

// maker makes programs of one function that may be, and inputs that fit them; the same ones in each run.
type maker struct{ *rand.Rand }

// one is one of some, at hazard.
func one[T any](m maker, l ...T) T { return l[m.Intn(len(l))] }

// inside is what a function that is made has where a statement stands: its words, those that may be set, those that may count there, those that do, its arrays and the regions.
type inside struct {
	words, set, count, around, arrays []string
}

// index makes one that is often within an array of four.
func (m maker) index(in inside, deep int) api.Expr {
	switch {
	case m.Intn(3) == 0:
		return word(one[uint64](m, 0, 1, 2, 3, 3, 2, 1, 0, 0, 0, 1, 1, 1, uint64(m.Intn(6))))
	case m.Intn(2) == 0 && len(in.around) > 0:
		return name(one(m, in.around...))
	}
	return op(api.OpAnd, m.expr(in, deep), word(one[uint64](m, 3, 3, 3, 3, 3, 3, 3, 3, 3, 3, 3, 7)))
}

func (m maker) expr(in inside, deep int) api.Expr {
	o := api.Op(1 + m.Intn(21))
	switch {
	case deep > 1 && (o == api.OpIndex || m.Intn(3) == 0):
		return index(one(m, in.arrays...), m.index(in, deep-1))
	case len(in.around) > 0 && m.Intn(4) == 0:
		return name(one(m, in.around...))
	case deep <= 1 || o == api.OpConst || o == api.OpVar:
		if m.Intn(3) == 0 {
			return word(one(m, uint64(m.Intn(5)), m.Uint64()))
		}
		return name(one(m, in.words...))
	}
	e := op(o)
	for range argsOf(o) {
		e.Args = append(e.Args, m.expr(in, deep-1))
	}
	return e
}

func argsOf(o api.Op) int {
	switch o {
	case api.OpIndex, api.OpNot, api.OpNeg:
		return 1
	case api.OpPick:
		return 3
	}
	return 2
}

func (m maker) stmts(in inside, deep int) stmts {
	var l stmts
	for range m.Intn(5) {
		l = append(l, m.stmt(in, deep))
	}
	return l
}

func (m maker) stmt(in inside, deep int) api.Stmt {
	e := func() api.Expr { return m.expr(in, 1+m.Intn(4)) }
	kind := api.StmtKind(1 + m.Intn(6))
	switch {
	case kind == api.StIf && deep > 0:
		return api.Stmt{Kind: kind, E: e(), Body: m.stmts(in, deep-1), Else: m.stmts(in, deep-1)}
	case kind == api.StWhile && deep > 0:
		return while(e(), m.stmts(in, deep-1)...)
	case kind > api.StWhile && deep > 0 && len(in.count) > 0:
		i, inner := m.Intn(len(in.count)), in
		inner.count = slices.Delete(slices.Clone(in.count), i, i+1)
		inner.around = append(slices.Clone(in.around), in.count[i])
		low := uint64(m.Intn(3))
		return rounds(in.count[i], low, low+uint64(m.Intn(4)), m.stmts(inner, deep-1)...)
	case kind == api.StPut:
		return api.Stmt{Kind: kind, Name: one(m, in.arrays...), A: m.index(in, 2), E: e()}
	}
	return set(one(m, in.set...), e())
}

// program makes a program: what a name is hangs on chance.
func (m maker) program() api.Program {
	p := api.Program{Regions: []api.Region{{Name: "key", Addr: 128, Size: 4, Secret: true}, {Name: "out", Addr: 8, Size: 4}}}
	f := api.Func{Name: "f", Params: []api.Var{reg("p")}, Vars: []api.Var{reg("x"), reg("i")}}
	in := inside{words: []string{"p", "x", "i"}, set: []string{"p", "x"}, count: []string{"i"}, arrays: []string{"key", "out"}}
	for _, s := range []string{"a", "b", "c", "d", "e"} {
		v := api.Var{Name: s, Kind: api.VarReg}
		switch m.Intn(4) {
		case 0:
			v.Secret = m.Intn(2) == 0
			f.Params = append(f.Params, v)
			in.words, in.set = append(in.words, s), append(in.set, s)
		case 1, 2:
			f.Vars = append(f.Vars, v)
			in.words, in.count = append(in.words, s), append(in.count, s)
		case 3:
			v.Kind, v.Size, v.Secret = one(m, api.VarArray, api.VarStack), one(m, 1, 2, 4, 4, 4, 4, 4, 4), m.Intn(2) == 0
			f.Vars = append(f.Vars, v)
			in.arrays = append(in.arrays, s)
		}
	}
	for _, k := range m.Perm(len(in.set))[:m.Intn(len(in.set)+1)] {
		f.Rets = append(f.Rets, in.set[k])
	}
	for len(f.Body) == 0 {
		f.Body = m.stmts(in, 5)
	}
	p.Funcs = []api.Func{f}
	return p
}

func (m maker) input(p api.Program) api.Input {
	in := api.Input{Args: make([]uint64, len(p.Funcs[0].Params)), Regions: [][]uint64{make([]uint64, 4), make([]uint64, 4)}}
	for _, l := range [][]uint64{in.Args, in.Regions[0], in.Regions[1]} {
		for i := range l {
			l[i] = one(m, 0, 1, 2, 3, m.Uint64())
		}
	}
	return in
}

// P11.1 to P11.3: made programs held against the model, and run on made inputs beside what comes of them.
func TestMade(t *testing.T) {
	m := maker{rand.New(rand.NewSource(111))}
	told, ends, kinds := map[api.Errno]int{}, map[api.Errno]int{}, map[api.TermKind]int{}
	for i := range 1500 {
		p := m.program()
		if errno := scope.May(p); errno != api.OK {
			t.Fatal(errno, p)
		}
		what := fmt.Sprint("program ", i)
		q, terms, errno := wantModel(t, what, p)
		told[errno]++
		countKinds(terms, kinds)
		for _, s := range []string{"i", "x", "p", "a"} {
			n := m.Uint64()
			wantPut(t, what+", put "+s, s, n, p.Funcs[0].Body, modelPut(p.Funcs[0].Body, s, n))
		}
		if errno == api.OK {
			for range 2 {
				ends[wantFollows(t, what, p, q, terms, m.input(p), m.Intn(60))]++
			}
		}
		if t.Failed() {
			t.Fatalf("%v", p)
		}
	}
	if told[api.OK] != 1500 || ends[api.OK] < 1000 || ends[api.ErrBounds] < 500 || ends[api.ErrFuel] < 100 {
		t.Error("too few:", told, ends)
	}
	for _, kind := range []api.TermKind{api.TermSame, api.TermIf, api.TermLoop, api.TermFor} {
		if kinds[kind] < 1000 {
			t.Error("too few of the kind", kind, kinds[kind])
		}
	}
}

func countKinds(l []api.Term, kinds map[api.TermKind]int) {
	for _, x := range l {
		kinds[x.Kind]++
		for _, sub := range x.Subs {
			countKinds(sub, kinds)
		}
	}
}

// wantModel wants of a program all that the model tells of it, and of what comes of it that it stays as it is.
func wantModel(t *testing.T, what string, p api.Program) (api.Program, []api.Term, api.Errno) {
	t.Helper()
	q, terms, errno := laid(t, what, p)
	wantQ, wantTerms, n, want := modelProgram(p)
	if errno != want || !scope.Same(q, wantQ) || tellTerms(terms) != tellTerms(wantTerms) || errno == api.OK && !leak.Terms(terms) {
		t.Fatalf("%s: %v, not %v, of %v:\n%v\n%v", what, errno, want, p, q, wantQ)
	}
	wantRounds(t, what, p, min(n, api.MaxSize+1))
	if errno == api.OK {
		again, _, errno := unroll.Program(q)
		if errno != api.OK || !scope.Same(again, q) {
			t.Errorf("%s: laid out again: %v, %v", what, errno, again)
		}
		wantRounds(t, what, q, 0)
	}
	return q, terms, errno
}

// wantFollows wants of a run what follows, P11.3, and answers how it ends.
func wantFollows(t *testing.T, what string, p, q api.Program, terms []api.Term, in api.Input, fuel int) api.Errno {
	t.Helper()
	a := ran(t, p, in, 2000)
	if a.Errno == api.ErrFuel {
		// Where the program has asked so often, and not ended, the result has not ended within as many steps.
		if b := ran(t, q, in, a.Asked); b.Errno != api.ErrFuel {
			t.Errorf("%s: %v, within %d steps", what, b.Errno, a.Asked)
		}
		return a.Errno
	}
	b := ran(t, q, in, 2000)
	if a.Errno != b.Errno || a.Asked != b.Asked || a.Steps < b.Steps {
		t.Errorf("%s: %v, not %v; asked %d times, not %d; %d steps of %d", what, b.Errno, a.Errno, b.Asked, a.Asked, b.Steps, a.Steps)
	}
	if !slices.Equal(a.Out.Rets, b.Out.Rets) || !slices.EqualFunc(a.Out.Regions, b.Out.Regions, slices.Equal[[]uint64]) {
		t.Errorf("%s: %v, not %v", what, b.Out, a.Out)
	}
	// What was leaked ahead of an error is the same, too: no statement came between.
	l, errno := leak.Rewrite(terms, a.Leak, 0, a.Errno != api.OK)
	if errno != api.OK || !leak.Same(l, b.Leak) {
		t.Errorf("%s: %v; %v, not %v", what, errno, b.Leak, l)
	}
	// What was leaked till some step is what the result leaks at its beginning.
	part := ran(t, p, in, fuel)
	early, errno := leak.Rewrite(terms, part.Leak, 0, part.Errno != api.OK)
	if errno != api.OK || !begins(early, b.Leak) {
		t.Errorf("%s: %v; %v begins not with %v", what, errno, b.Leak, early)
	}
	return a.Errno
}

func begins(a, b []api.Leak) bool {
	x, e := leak.Flat(a)
	y, f := leak.Flat(b)
	return e == api.OK && f == api.OK && leak.Prefix(x, y)
}

func ran(t *testing.T, p api.Program, in api.Input, fuel int) api.Ran {
	t.Helper()
	x, errno := source.Run(p, in, fuel)
	if errno != api.OK {
		t.Fatal(errno)
	}
	return x
}

// P11.3, P0.1: a cipher, whose loops stand within each other, and within loops and branches that ask, on some inputs.
func TestCipher(t *testing.T) {
	p := program(t, `region key 0 4 secret; region text 64 8;
		fn main(n, k secret) -> c, n { var c; var i; var j; var j1; array r 8 secret; stack s 8;
			for i 0 8 { r[i] = (text[i] ^ key[(i & 3)]); s[i] = (7 - i); }
			while (c < n) {
				for j 0 3 { for i 1 8 { r[i] = ((r[(i - 1)] <<< (i + j)) + (k + i)); if (i == text[j]) { for j1 2 4 { text[j1] = (text[j1] + i); } } else { s[i] = (r[i] & 7); } } }
				c = (c + 1);
			}
			for i 2 6 { s[i] = text[(i + n)]; }
			c = (r[7] ^ (i + j)); }`)
	q, terms, errno := wantModel(t, "the cipher", p)
	if errno != api.OK {
		t.Fatal(errno)
	}
	ends := map[api.Errno]int{}
	m := maker{rand.New(rand.NewSource(112))}
	for range 200 {
		in := api.Input{Args: []uint64{uint64(m.Intn(5)), m.Uint64()}, Regions: [][]uint64{make([]uint64, 4), make([]uint64, 8)}}
		for i := range 8 {
			in.Regions[1][i] = uint64(m.Intn(8))
			in.Regions[0][i%4] = m.Uint64()
		}
		ends[wantFollows(t, "the cipher", p, q, terms, in, m.Intn(400))]++
	}
	if ends[api.OK] < 20 || ends[api.ErrBounds] < 20 {
		t.Error("too few:", ends)
	}
}

// P11.3: the edges: loops of no round and of none that is laid, places that hang on a round, and errors in the last one.
func TestFollows(t *testing.T) {
	for _, text := range []string{
		"region k 0 4; fn f() { var i; for i 0 0 { k[9] = 1; } }",
		"region k 0 4; fn f() { var i; for i 0 4 { k[i] = i; } k[i] = 7; }",
		"region k 0 4; fn f() { var i; for i 0 5 { k[i] = i; } }",
		"region k 0 4; fn f() -> x { var x; var i; stack s 3; for i 2 5 { x = (x + s[(i - 2)]); s[(i & 1)] = (x + i); } for i 0 1 { x = (x + s[i]); } }",
		"region k 0 4; fn f() -> x { var x; var i; var j; for i 0 3 { for j 0 3 { while (x < (i * j)) { x = (x + 1); k[x] = j; } } } }",
		"region k 0 4; fn f() -> x { var x; var i; for i 1 4 { if (x == i) { x = k[(i + 3)]; } else { x = (x + i); } } }",
		"region k 0 4; fn f() -> x { var x; var i; for i 1 4 { if k[i] { } else { x = (x + k[(x & 1)]); } } x = (x + i); }",
		"region k 0 4; fn f() { var i; var j; while 1 { for i 0 2 { k[i] = j; } for j 0 3 { k[(i + j)] = 1; } if 1 { for i 3 5 { k[i] = 2; } } else { } } }",
	} {
		p := program(t, text)
		q, terms, errno := wantModel(t, text, p)
		if errno != api.OK {
			t.Fatal(text, errno)
		}
		in := api.Input{Regions: [][]uint64{{1, 0, 5, 9}}}
		for fuel := range 60 {
			if end := wantFollows(t, text, p, q, terms, in, fuel); end == api.ErrFuel {
				t.Error(text, end)
			}
		}
	}
}

// P11.3, P0.5: a run that does not end: the result asks as often, and does not end.
func TestNoEnd(t *testing.T) {
	p := program(t, "region k 0 4; fn f() { var i; var x; for i 0 3 { while (i == 1) { for x 0 2 { k[x] = i; } } } }")
	q, terms, errno := wantModel(t, "no end", p)
	if errno != api.OK {
		t.Fatal(errno)
	}
	in := api.Input{Regions: [][]uint64{{1, 2, 3, 4}}}
	for fuel := range 200 {
		a := ran(t, p, in, fuel)
		b := ran(t, q, in, fuel)
		if a.Errno != api.ErrFuel || b.Errno != api.ErrFuel || b.Asked < a.Asked || ran(t, q, in, a.Asked).Errno != api.ErrFuel {
			t.Error(fuel, a, b)
		}
		l, errno := leak.Rewrite(terms, a.Leak, 0, true)
		if errno != api.OK || !begins(l, b.Leak) {
			t.Error(fuel, errno, l, b.Leak)
		}
	}
}

// P11.3: a run of as many rounds as there may be.
func TestLongRun(t *testing.T) {
	p := counting(rounds("i", 0, api.MaxSize/2, set("x", name("i"))))
	p.Funcs[0].Rets = []string{"x", "y"}
	q, terms, errno := laid(t, "long", p)
	if errno != api.OK {
		t.Fatal(errno)
	}
	a, b := ran(t, p, api.Input{}, api.MaxFuel), ran(t, q, api.Input{}, api.MaxFuel)
	l, errno := leak.Rewrite(terms, a.Leak, 0, false)
	if errno != api.OK || !leak.Same(l, b.Leak) || !slices.Equal(b.Out.Rets, []uint64{api.MaxSize/2 - 1, 0}) || !slices.Equal(a.Out.Rets, b.Out.Rets) || b.Steps != api.MaxSize/2 {
		t.Error(errno, a.Out, b.Out, b.Steps)
	}
}
