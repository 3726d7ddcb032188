package fold_test

import (
	"fmt"
	"math/rand"
	"slices"
	"testing"

	"muffle/api"
	"muffle/leak"
	"muffle/scope"
	"muffle/source"
)

// maker makes programs of one function that may be, and inputs that fit them; the same ones in each run.
type maker struct{ *rand.Rand }

// one is one of some, at hazard.
func one[T any](m maker, l ...T) T { return l[m.Intn(len(l))] }

// inside is what a function that is made has: its words, and its arrays with the regions.
type inside struct {
	words, arrays []string
}

// number is one that is often met again.
func (m maker) number() api.Expr {
	return word(one(m, 0, 0, 1, 1, 1, 2, 3, uint64(m.Intn(70)), 1<<64-1, m.Uint64()))
}

// place makes one that is often within an array of four.
func (m maker) place(in inside, deep int) api.Expr {
	switch m.Intn(3) {
	case 0:
		return word(one[uint64](m, 0, 1, 2, 3, 3, 2, 1, 0, 0, 0, 1, 1, 1, uint64(m.Intn(6))))
	case 1:
		return name(one(m, in.words...))
	}
	return op(api.OpAnd, m.expr(in, deep), word(one[uint64](m, 3, 3, 3, 3, 3, 3, 3, 3, 3, 3, 3, 7)))
}

func (m maker) expr(in inside, deep int) api.Expr {
	o := api.Op(1 + m.Intn(24))
	switch {
	case deep <= 1 || o <= api.OpVar || m.Intn(4) == 0:
		if m.Intn(2) == 0 {
			return m.number()
		}
		return name(one(m, in.words...))
	case o == api.OpIndex:
		return index(one(m, in.arrays...), m.place(in, deep-1))
	}
	e := op(min(o, api.OpPick))
	for range argsOf(e.Op) {
		e.Args = append(e.Args, m.expr(in, deep-1))
	}
	return e
}

// condition makes one that is often known, and turns when a word is set.
func (m maker) condition(in inside) api.Expr {
	switch m.Intn(4) {
	case 0:
		return name(one(m, in.words...))
	case 1:
		return op(one(m, api.OpEq, api.OpNe, api.OpLt, api.OpLe), name(one(m, in.words...)), m.number())
	}
	return m.expr(in, 1+m.Intn(4))
}

func (m maker) stmts(in inside, deep int) stmts {
	var l stmts
	for range m.Intn(5) {
		l = append(l, m.stmt(in, deep)...)
	}
	return l
}

func (m maker) stmt(in inside, deep int) stmts {
	e := func() api.Expr { return m.expr(in, 1+m.Intn(4)) }
	s := one(m, in.words...)
	switch kind := api.StmtKind(1 + m.Intn(5)); {
	case kind == api.StIf && deep > 0:
		return stmts{{Kind: kind, E: m.condition(in), Body: m.stmts(in, deep-1), Else: m.stmts(in, deep-1)}}
	case kind == api.StWhile && deep > 0 && m.Intn(4) == 0:
		return stmts{while(m.condition(in), m.stmts(in, deep-1)...)}
	case kind >= api.StWhile && deep > 0:
		// It ends, unless its Body sets the word, too.
		body := append(m.stmts(in, deep-1), set(s, op(api.OpAdd, name(s), word(1))))
		return stmts{set(s, word(uint64(m.Intn(3)))), while(op(api.OpLt, name(s), word(uint64(m.Intn(5)))), body...)}
	case kind == api.StPut:
		return stmts{put(one(m, in.arrays...), m.place(in, 2), e())}
	}
	if m.Intn(2) == 0 {
		return stmts{set(s, m.number())}
	}
	return stmts{set(s, e())}
}

// program makes a program: what a name is hangs on chance.
func (m maker) program() api.Program {
	p := api.Program{Regions: []api.Region{{Name: "key", Addr: 128, Size: 4, Secret: true}, {Name: "out", Addr: 8, Size: 4}}}
	f := api.Func{Name: "f", Params: []api.Var{reg("p")}, Vars: []api.Var{reg("x"), reg("y")}}
	in := inside{words: []string{"p", "x", "y"}, arrays: []string{"key", "out"}}
	for _, s := range []string{"a", "b", "c", "d", "e"} {
		v := api.Var{Name: s, Kind: api.VarReg}
		switch m.Intn(5) {
		case 0:
			v.Secret = m.Intn(2) == 0
			f.Params = append(f.Params, v)
			in.words = append(in.words, s)
		case 1, 2, 3:
			f.Vars = append(f.Vars, v)
			in.words = append(in.words, s)
		case 4:
			v.Kind, v.Size, v.Secret = one(m, api.VarArray, api.VarStack), one(m, 1, 2, 4, 4, 4, 4, 4, 4), m.Intn(2) == 0
			f.Vars = append(f.Vars, v)
			in.arrays = append(in.arrays, s)
		}
	}
	for _, k := range m.Perm(len(in.words))[:1+m.Intn(len(in.words))] {
		f.Rets = append(f.Rets, in.words[k])
	}
	for len(f.Body) == 0 {
		f.Body = m.stmts(in, 4)
	}
	p.Funcs = []api.Func{f}
	return p
}

func (m maker) input(p api.Program) api.Input {
	in := api.Input{Args: make([]uint64, len(p.Funcs[0].Params)), Regions: [][]uint64{make([]uint64, 4), make([]uint64, 4)}}
	for _, l := range [][]uint64{in.Args, in.Regions[0], in.Regions[1]} {
		for i := range l {
			l[i] = one(m, 0, 1, 2, 3, m.Uint64())
		}
	}
	return in
}

// P12.1 to P12.3: made programs held against the model, and run on made inputs beside what comes of them.
func TestMade(t *testing.T) {
	m := maker{rand.New(rand.NewSource(121))}
	ends, kinds, told := map[api.Errno]int{}, map[string]int{}, map[int]int{}
	for i := range 1500 {
		p := m.program()
		what := fmt.Sprint("program ", i)
		q, terms := wantModel(t, what, p)
		countKinds(terms, kinds)
		last, all := wantModelRounds(t, what, p)
		told[len(all)]++
		for range 2 {
			in, fuel := m.input(p), m.Intn(60)
			ends[wantFollows(t, what, p, q, [][]api.Term{terms}, in, fuel)]++
			wantFollows(t, what+", all rounds", p, last, all, in, fuel)
		}
		if t.Failed() {
			t.Fatal(tell(p))
		}
	}
	if ends[api.OK] < 1200 || ends[api.ErrBounds] < 300 || ends[api.ErrFuel] < 100 {
		t.Error("too few:", ends)
	}
	if told[0] < 60 || told[1] < 600 || told[2] < 30 || told[3] < 1 {
		t.Error("too few rounds:", told)
	}
	for _, kind := range []string{"=", "if", "yes", "no", "while"} {
		if kinds[kind] < 300 {
			t.Error("too few of the kind", kind, kinds)
		}
	}
}

func countKinds(l []api.Term, kinds map[string]int) {
	for _, x := range l {
		subs := x.Subs
		x.Subs = nil
		kinds[tellTerms([]api.Term{x})]++
		for _, sub := range subs {
			countKinds(sub, kinds)
		}
	}
}

// wantModel wants of a program what the model tells of Program.
func wantModel(t *testing.T, what string, p api.Program) (api.Program, []api.Term) {
	t.Helper()
	q, terms, errno := folded(t, what, p)
	wantQ, wantTerms := modelProgram(p)
	if errno != api.OK || !scope.Same(q, wantQ) || tellTerms(terms) != tellTerms(wantTerms) {
		t.Fatalf("%s: %v of\n%s:\n%s, not\n%s", what, errno, tell(p), tell(q), tell(wantQ))
	}
	wantSets(t, what, p.Funcs[0].Body, modelSets(p.Funcs[0].Body)...)
	// Where nothing is done over again, nothing is found in a second round.
	if again, _ := modelProgram(q); !hasLoop(p.Funcs[0].Body) && !scope.Same(again, q) {
		t.Errorf("%s: folded again: %s", what, tell(again))
	}
	return q, terms
}

func hasLoop(l stmts) bool {
	return slices.ContainsFunc(l, func(s api.Stmt) bool { return s.Kind == api.StWhile || hasLoop(s.Body) || hasLoop(s.Else) })
}

// wantModelRounds wants of a program what the model tells of Rounds.
func wantModelRounds(t *testing.T, what string, p api.Program) (api.Program, [][]api.Term) {
	t.Helper()
	q, all, errno := foldedAll(t, what, p)
	wantQ, wantAll := modelRounds(p)
	if errno != api.OK || !scope.Same(q, wantQ) || !slices.Equal(tellAll(all), tellAll(wantAll)) {
		t.Fatalf("%s: of Rounds %v of\n%s:\n%s, not\n%s", what, errno, tell(p), tell(q), tell(wantQ))
	}
	return q, all
}

// wantFollows wants of a run what follows, P12.3, and answers how it ends.
func wantFollows(t *testing.T, what string, p, q api.Program, all [][]api.Term, in api.Input, fuel int) api.Errno {
	t.Helper()
	a := ran(t, p, in, 2000)
	if a.Errno == api.ErrFuel {
		// Where the program has asked so often, and not ended, the result has not ended within as many steps.
		if b := ran(t, q, in, a.Asked); b.Errno != api.ErrFuel {
			t.Errorf("%s: %v, within %d steps", what, b.Errno, a.Asked)
		}
		return a.Errno
	}
	b := ran(t, q, in, 2000)
	if a.Errno != b.Errno || a.Asked != b.Asked || a.Steps < b.Steps {
		t.Errorf("%s: %v, not %v; asked %d times, not %d; %d steps of %d", what, b.Errno, a.Errno, b.Asked, a.Asked, b.Steps, a.Steps)
	}
	if !slices.Equal(a.Out.Rets, b.Out.Rets) || !slices.EqualFunc(a.Out.Regions, b.Out.Regions, slices.Equal[[]uint64]) {
		t.Errorf("%s: %v, not %v", what, b.Out, a.Out)
	}
	// What was leaked ahead of an error is the same, too: no read is lost.
	l, errno := leak.Through(all, a.Leak, 0, a.Errno != api.OK)
	if errno != api.OK || !leak.Same(l, b.Leak) {
		t.Errorf("%s: %v; %v, not %v", what, errno, b.Leak, l)
	}
	// What was leaked till some step is what the result leaks at its beginning.
	part := ran(t, p, in, fuel)
	early, errno := leak.Through(all, part.Leak, 0, part.Errno != api.OK)
	if errno != api.OK || !begins(early, b.Leak) {
		t.Errorf("%s: %v; %v begins not with %v", what, errno, b.Leak, early)
	}
	return a.Errno
}

func begins(a, b []api.Leak) bool {
	x, e := leak.Flat(a)
	y, f := leak.Flat(b)
	return e == api.OK && f == api.OK && leak.Prefix(x, y)
}

func ran(t *testing.T, p api.Program, in api.Input, fuel int) api.Ran {
	t.Helper()
	x, errno := source.Run(p, in, fuel)
	if errno != api.OK {
		t.Fatal(errno)
	}
	return x
}

// wantAllFollow wants of a program what the model tells, and of its runs, by Program and by Rounds, what follows; it answers how they end.
func wantAllFollow(t *testing.T, what string, p api.Program, in api.Input, fuel int) api.Errno {
	t.Helper()
	q, terms := wantModel(t, what, p)
	last, all := wantModelRounds(t, what, p)
	wantFollows(t, what+", all rounds", p, last, all, in, fuel)
	return wantFollows(t, what, p, q, [][]api.Term{terms}, in, fuel)
}

// P12.2: made expressions held against the model, with words that are known, and ones that are not.
func TestMadeExprs(t *testing.T) {
	m := maker{rand.New(rand.NewSource(122))}
	in := inside{words: []string{"a", "b", "c", "d", "p", "q"}, arrays: []string{"r", "s", "a"}}
	numbers, changed := 0, 0
	for i := range 20000 {
		k := known{}
		for _, s := range []string{"a", "b", "c", "d"}[:m.Intn(5)] {
			k[s] = m.number().Word
		}
		e := m.expr(in, 1+m.Intn(7))
		want := modelExpr(e, k)
		what := fmt.Sprint("expression ", i)
		wantExpr(t, what, e, k, want)
		wantExpr(t, what+", again", want, k, want)
		if want.Op == api.OpConst && e.Op != api.OpConst {
			numbers++
		} else if !sameExpr(e, want) {
			changed++
		}
		if t.Failed() {
			t.Fatal(e, k)
		}
	}
	if numbers < 3000 || changed < 1000 {
		t.Error("too few:", numbers, changed)
	}
}

// P12.3, P0.1: a cipher, as it is when its loops are laid out, on some inputs.
func TestCipher(t *testing.T) {
	p := program(t, `region key 0 4 secret; region text 64 8;
		fn main(n, k secret) -> c, h { var c; var h; var i; var j; var bare; var twice; var never; stack s 8;
			s[(0 + 1)] = (text[0] ^ key[(0 & 3)]); s[(1 + 1)] = (text[1] ^ key[(1 & 3)]); j = (2 * 2);
			if bare { s[j] = 1; } else { s[j] = (8 >> (j - 3)); }
			while (c < n) {
				i = 0;
				if (j == 4) { s[(j + i)] = pick(twice, key[i], (k + (1 << j))); } else { s[0] = 1; }
				if never { j = 5; }
				while (i < 3) {
					if twice { h = (h + pick(bare, 2, s[(i + j)])); twice = 0; } else { h = ((h <<< (j + 3)) ^ pick(bare, 7, s[(i + bare)])); }
					i = (i + 1);
					if (bare == 1) { bare = 0; twice = 1; }
				}
				text[(h & j)] = (h & 1);
				c = (c + 1);
			}
			if (twice | bare) { h = 0; } else { text[(j + n)] = ~(h * j); } }`)
	ends := map[api.Errno]int{}
	m := maker{rand.New(rand.NewSource(123))}
	for range 200 {
		in := api.Input{Args: []uint64{uint64(m.Intn(7)), m.Uint64()}, Regions: [][]uint64{make([]uint64, 4), make([]uint64, 8)}}
		for i := range 8 {
			in.Regions[1][i] = uint64(m.Intn(8))
			in.Regions[0][i%4] = m.Uint64()
		}
		ends[wantAllFollow(t, "the cipher", p, in, m.Intn(300))]++
	}
	if ends[api.OK] < 20 || ends[api.ErrBounds] < 20 {
		t.Error("too few:", ends)
	}
	if _, all, _ := foldedAll(t, "the cipher", p); len(all) < 2 {
		t.Error("too few rounds:", tellAll(all))
	}
}

// P12.3: the edges: reads that must be kept, errors in what is left, loops that are never done, what is known behind both ways.
func TestFollows(t *testing.T) {
	for _, text := range []string{
		"fn f(p) -> x { var x; x = pick(1, p, k[9]); }",
		"fn f(p) -> x { var x; x = pick(1, p, k[p]); x = (x + pick(0, k[1], k[x])); }",
		"fn f(p) -> x { var x; x = pick(0, p, 7); if pick(1, x, k[p]) { x = k[x]; } else { x = 1; } }",
		"fn f(p) -> x { var x; if 1 { k[(x + p)] = k[0]; } else { k[9] = 1; } x = k[p]; }",
		"fn f(p) -> x { var x; if 0 { k[9] = 1; } while x { k[9] = k[9]; x = k[9]; } x = p; }",
		"fn f(p) -> x { var x; var y; if p { x = 2; y = 1; } else { x = 2; y = k[x]; } k[x] = y; k[y] = x; }",
		"fn f(p) -> x { var x; var y; while (x < p) { if (y == 0) { x = (x + 1); } else { y = k[9]; } } k[x] = y; }",
		"fn f(p) -> x { var x; var y; while (x < p) { y = 3; x = (x + y); } k[y] = 1; }",
		"fn f(p) -> x { var x; var y; x = 3; while (x < 4) { k[x] = p; x = (x + 1); y = x; while (y < 6) { y = (y + 1); if (y == 5) { k[p] = y; } } } x = k[(x - 4)]; }",
		"fn f(p) -> x { var x; if 1 { if p { if 1 { while (x < 3) { x = (x + 1); if 0 { x = 9; } } } } else { x = 3; } } else { } k[x] = 1; x = k[(x + p)]; }",
		"fn f(p) -> p { p = 3; k[p] = k[(p - 1)]; p = (p + k[p]); p = k[p]; }",
		"fn f(p) -> x { var x; x = ((1 << 64) + ((1 << 63) >> 63)); k[(x - 2)] = (p >> 64); k[~x] = 1; }",
	} {
		p := program(t, "region k 0 4; "+text)
		ends := map[api.Errno]int{}
		for n := range uint64(6) {
			in := api.Input{Args: []uint64{n}, Regions: [][]uint64{{1, 0, 3, 9}}}
			for fuel := range 40 {
				ends[wantAllFollow(t, text, p, in, fuel)]++
			}
		}
		if ends[api.ErrFuel] > 0 {
			t.Error(text, ends)
		}
	}
}

// P12.3: the terms of each round, one behind the other, are what becomes of the leakage, for as many rounds as there may be.
func TestFollowsRounds(t *testing.T) {
	for _, n := range []int{1, 2, 7, 8, 9, 15} {
		p := chain(n)
		f := &p.Funcs[0]
		f.Body[0].Body = append(f.Body[0].Body, set("p", op(api.OpSub, name("p"), word(1))))
		f.Body = append(f.Body, set("p", name(fmt.Sprint("x", n))))
		f.Rets = []string{"p"}
		for args := range uint64(4) {
			for fuel := range 30 {
				if end := wantAllFollow(t, fmt.Sprint("a chain of ", n), p, api.Input{Args: []uint64{args}}, fuel); end != api.OK {
					t.Error(n, end)
				}
			}
		}
	}
}

// P12.3, P0.5: a run that does not end: the result asks as often, and does not end.
func TestNoEnd(t *testing.T) {
	p := program(t, "region k 0 4; fn f(p) { var x; var y; var z; while (y == 0) { if z { y = 1; } else { k[x] = p; } if (p == y) { while (x < 2) { x = (x + 1); k[x] = y; } x = y; } } }")
	in := api.Input{Args: []uint64{0}, Regions: [][]uint64{{1, 2, 3, 4}}}
	q, terms := wantModel(t, "no end", p)
	last, all := wantModelRounds(t, "no end", p)
	if len(all) < 2 {
		t.Error("too few rounds:", tellAll(all))
	}
	for fuel := range 200 {
		a := ran(t, p, in, fuel)
		for _, c := range []struct {
			q   api.Program
			all [][]api.Term
		}{{q, [][]api.Term{terms}}, {last, all}} {
			b := ran(t, c.q, in, fuel)
			if a.Errno != api.ErrFuel || b.Errno != api.ErrFuel || b.Asked < a.Asked || ran(t, c.q, in, a.Asked).Errno != api.ErrFuel {
				t.Error(fuel, a, b)
			}
			l, errno := leak.Through(c.all, a.Leak, 0, true)
			if errno != api.OK || !begins(l, b.Leak) {
				t.Error(fuel, errno, l, b.Leak)
			}
		}
	}
}
