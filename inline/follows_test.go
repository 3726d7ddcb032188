package inline_test

import (
	"fmt"
	"math/rand"
	"slices"
	"testing"

	"muffle/api"
	"muffle/inline"
	"muffle/leak"
	"muffle/scope"
	"muffle/source"
)

// maker makes programs that may be, and inputs that fit them; the same ones in each run.
type maker struct{ *rand.Rand }

// one is one of some, at hazard.
func one[T any](m maker, l ...T) T { return l[m.Intn(len(l))] }

// inside is what a function that is made has: its words, those that may be set, those that may count here, its arrays and the regions, and those functions that stand ahead.
type inside struct {
	words, set, count, arrays []string
	ahead                     []api.Func
}

// index makes one that is often within an array of four.
func (m maker) index(in inside, deep int) api.Expr {
	if m.Intn(3) == 0 {
		return word(one[uint64](m, 0, 1, 2, 3, 3, 2, 1, 0, 0, 0, 1, 1, 1, uint64(m.Intn(6))))
	}
	return op(api.OpAnd, m.expr(in, deep), word(one[uint64](m, 3, 3, 3, 3, 3, 3, 3, 3, 3, 3, 3, 7)))
}

func (m maker) expr(in inside, deep int) api.Expr {
	o := api.Op(1 + m.Intn(21))
	switch {
	case deep > 1 && (o == api.OpIndex || m.Intn(3) == 0):
		return index(one(m, in.arrays...), m.index(in, deep-1))
	case deep <= 1 || o == api.OpConst || o == api.OpVar:
		if m.Intn(3) == 0 || len(in.words) == 0 {
			return word(one(m, uint64(m.Intn(5)), m.Uint64()))
		}
		return name(one(m, in.words...))
	}
	e := op(o)
	for range argsOf(o) {
		e.Args = append(e.Args, m.expr(in, deep-1))
	}
	return e
}

func argsOf(o api.Op) int {
	switch o {
	case api.OpNot, api.OpNeg:
		return 1
	case api.OpPick:
		return 3
	}
	return 2
}

func (m maker) stmts(in inside, deep int) stmts {
	var l stmts
	for range m.Intn(5) {
		l = append(l, m.stmt(in, deep))
	}
	return l
}

func (m maker) stmt(in inside, deep int) api.Stmt {
	e := func() api.Expr { return m.expr(in, 1+m.Intn(4)) }
	kind := api.StmtKind(1 + m.Intn(7))
	switch {
	case kind == api.StIf && deep > 0:
		return api.Stmt{Kind: kind, E: e(), Body: m.stmts(in, deep-1), Else: m.stmts(in, deep-1)}
	case kind == api.StWhile && deep > 0:
		return api.Stmt{Kind: kind, E: e(), Body: m.stmts(in, deep-1)}
	case kind == api.StFor && deep > 0 && len(in.count) > 0:
		low, inner := uint64(m.Intn(3)), in
		inner.count = in.count[1:]
		return rounds(in.count[0], low, low+uint64(m.Intn(4)), m.stmts(inner, deep-1)...)
	case kind >= api.StCall && len(in.ahead) > 0:
		f := one(m, in.ahead...)
		s := api.Stmt{Kind: api.StCall, Name: f.Name}
		for range f.Params {
			s.Args = append(s.Args, e())
		}
		if len(in.set) >= len(f.Rets) {
			for _, i := range m.Perm(len(in.set))[:len(f.Rets)] {
				s.Names = append(s.Names, in.set[i])
			}
			return s
		}
	}
	if len(in.set) == 0 || kind == api.StPut {
		return api.Stmt{Kind: api.StPut, Name: one(m, in.arrays...), A: m.index(in, 2), E: e()}
	}
	return set(one(m, in.set...), e())
}

// vars gives a function its variables: what a name is hangs on chance.
func (m maker) vars(f *api.Func, in *inside) {
	for _, s := range []string{"a", "b", "c", "v0", "v1", "v3", "v7", "v10", "f0"} {
		v := api.Var{Name: s, Kind: api.VarReg}
		switch m.Intn(9) {
		case 0, 1:
			v.Secret = m.Intn(2) == 0
			f.Params = append(f.Params, v)
			in.words, in.set = append(in.words, s), append(in.set, s)
		case 2, 3:
			f.Vars = append(f.Vars, v)
			in.words, in.set = append(in.words, s), append(in.set, s)
		case 4, 5:
			f.Vars = append(f.Vars, v)
			in.words, in.count = append(in.words, s), append(in.count, s)
		case 6, 7:
			v.Kind, v.Size, v.Secret = one(m, api.VarArray, api.VarStack), one(m, 1, 2, 4, 4, 4, 4, 4, 4), m.Intn(2) == 0
			f.Vars = append(f.Vars, v)
			in.arrays = append(in.arrays, s)
		}
	}
}

// program makes a program of one to five functions, some of whose names are variables' in others.
func (m maker) program() api.Program {
	p := api.Program{Regions: []api.Region{{Name: "key", Addr: 128, Size: 4, Secret: true}, {Name: one(m, "v2", "v8", "out"), Addr: 8, Size: 4}}}
	for i := range 1 + m.Intn(5) {
		f := api.Func{Name: fmt.Sprint("f", i)}
		in := inside{arrays: []string{"key", p.Regions[1].Name}, ahead: p.Funcs}
		m.vars(&f, &in)
		for _, k := range m.Perm(len(in.set))[:m.Intn(min(3, len(in.set)+1))] {
			f.Rets = append(f.Rets, in.set[k])
		}
		// A word that only some loop would have had is a word like others.
		in.set = append(in.set, m.spare(&in)...)
		for len(f.Body) == 0 {
			f.Body = m.stmts(in, 3)
		}
		p.Funcs = append(p.Funcs, f)
	}
	return p
}

// spare takes the last one of the words that may count away, to be set.
func (m maker) spare(in *inside) []string {
	n := len(in.count)
	if n == 0 || m.Intn(2) == 0 {
		return nil
	}
	l := in.count[n-1:]
	in.count = in.count[:n-1]
	return l
}

// grow makes all arrays as large as may be.
func (m maker) grow(p *api.Program) {
	for _, f := range p.Funcs {
		for i := range f.Vars {
			if f.Vars[i].Kind != api.VarReg {
				f.Vars[i].Size = api.MaxWords
			}
		}
	}
}

func (m maker) input(p api.Program) api.Input {
	in := api.Input{Args: make([]uint64, len(p.Funcs[len(p.Funcs)-1].Params)), Regions: [][]uint64{make([]uint64, 4), make([]uint64, 4)}}
	for _, l := range [][]uint64{in.Args, in.Regions[0], in.Regions[1]} {
		for i := range l {
			l[i] = one(m, 0, 1, 2, 3, m.Uint64())
		}
	}
	return in
}

// P10.1 to P10.3: made programs held against the model, and run on made inputs beside what comes of them.
func TestMade(t *testing.T) {
	m := maker{rand.New(rand.NewSource(101))}
	told, ends, kinds := map[api.Errno]int{}, map[api.Errno]int{}, map[api.TermKind]int{}
	for i := range 1200 {
		p := m.program()
		if i%8 == 0 {
			m.grow(&p)
		}
		if errno := scope.May(p); errno != api.OK {
			t.Fatal(errno, p)
		}
		what := fmt.Sprint("program ", i)
		q, terms, errno := wantModel(t, what, p)
		told[errno]++
		countKinds(terms, kinds)
		if errno != api.OK {
			continue
		}
		for range 2 {
			ends[wantFollows(t, what, p, q, terms, m.input(p), m.Intn(60))]++
		}
		if t.Failed() {
			t.Fatalf("%v", p)
		}
	}
	if told[api.OK] < 1000 || told[api.ErrMany] < 8 || ends[api.OK] < 500 || ends[api.ErrBounds] < 500 || ends[api.ErrFuel] < 100 {
		t.Error("too few:", told, ends)
	}
	for _, kind := range []api.TermKind{api.TermSame, api.TermLines, api.TermIf, api.TermLoop, api.TermCall, api.TermEach} {
		if kinds[kind] < 1000 {
			t.Error("too few of the kind", kind, kinds[kind])
		}
	}
}

func countKinds(l []api.Term, kinds map[api.TermKind]int) {
	for _, x := range l {
		kinds[x.Kind]++
		for _, sub := range x.Subs {
			countKinds(sub, kinds)
		}
	}
}

// wantModel wants of a program all that the model tells of it.
func wantModel(t *testing.T, what string, p api.Program) (api.Program, []api.Term, api.Errno) {
	t.Helper()
	x := modelOf(p)
	q, terms, errno := taken(t, what, p)
	wantQ, wantTerms, want := x.program()
	if errno != want || !scope.Same(q, wantQ) || tellTerms(terms) != tellTerms(wantTerms) {
		t.Fatalf("%s: %v, not %v, of %v:\n%v\n%v", what, errno, want, p, q, wantQ)
	}
	wantCalls(t, what, p, min(x.calls, api.MaxSize+1))
	wantNames(t, what, p, tellVars(x.vars))
	var reached []int
	for f := range len(p.Funcs) - 1 {
		if x.reaches(p.Funcs[len(p.Funcs)-1].Name, p.Funcs[f].Name) {
			reached = append(reached, f)
		}
	}
	wantReached(t, what, p, reached...)
	for f := range p.Funcs {
		if s := p.Funcs[f].Body[0]; s.Kind != api.StCall {
			for g := range p.Funcs {
				wantPlaces(t, what, p, g, s.E, x.places(&p.Funcs[g], s.E))
			}
		}
	}
	return q, terms, errno
}

// wantFollows wants of a run what follows, P10.3, and answers how it ends.
func wantFollows(t *testing.T, what string, p, q api.Program, terms []api.Term, in api.Input, fuel int) api.Errno {
	t.Helper()
	a := ran(t, p, in, 600)
	if a.Errno == api.ErrFuel {
		// Where the program has asked so often, and not ended, the result has not ended within as many steps.
		if b := ran(t, q, in, a.Asked); b.Errno != api.ErrFuel {
			t.Errorf("%s: %v, within %d steps", what, b.Errno, a.Asked)
		}
		return a.Errno
	}
	b := ran(t, q, in, 3000)
	if b.Errno == api.ErrFuel {
		b = ran(t, q, in, api.MaxFuel)
	}
	if a.Errno != b.Errno || a.Asked != b.Asked {
		t.Errorf("%s: %v, not %v; asked %d times, not %d", what, b.Errno, a.Errno, b.Asked, a.Asked)
	}
	if !slices.Equal(a.Out.Rets, b.Out.Rets) || !slices.EqualFunc(a.Out.Regions, b.Out.Regions, slices.Equal[[]uint64]) {
		t.Errorf("%s: %v, not %v", what, b.Out, a.Out)
	}
	l, errno := leak.Rewrite(terms, a.Leak, 0, a.Errno != api.OK)
	if errno != api.OK || a.Errno == api.OK && !leak.Same(l, b.Leak) {
		t.Errorf("%s: %v; %v, not %v", what, errno, b.Leak, l)
	}
	// What was leaked ahead of an error, or till some step, is what the result leaks at its beginning.
	part := ran(t, p, in, fuel)
	early, errno := leak.Rewrite(terms, part.Leak, 0, part.Errno != api.OK)
	if errno != api.OK || !begins(early, b.Leak) || !begins(l, b.Leak) {
		t.Errorf("%s: %v; %v begins not with %v", what, errno, b.Leak, early)
	}
	return a.Errno
}

func begins(a, b []api.Leak) bool {
	x, e := leak.Flat(a)
	y, f := leak.Flat(b)
	return e == api.OK && f == api.OK && leak.Prefix(x, y)
}

func ran(t *testing.T, p api.Program, in api.Input, fuel int) api.Ran {
	t.Helper()
	x, errno := source.Run(p, in, fuel)
	if errno != api.OK {
		t.Fatal(errno)
	}
	return x
}

// P10.3, P0.1: a cipher, whose functions call each other from within loops and branches, on some inputs.
func TestCipher(t *testing.T) {
	p := program(t, `region key 0 4 secret; region text 64 4;
		fn mix(a secret, b) -> c, a { var c; stack s 4; array r 2 secret; var i; for i 0 4 { s[i] = (text[i] + s[(i & 1)]); r[(i & 1)] = (a <<< s[3]); } c = (r[0] ^ (r[1] + key[(b & 3)])); a = s[(b & 3)]; }
		fn round(n) -> n { var x; var y; var i; for i 1 4 { x, y = mix(key[i], text[(y & 3)]); text[i] = x; if (text[n] & 1) { x, n = mix(text[text[1]], 3); n = 2; } else { while (n < 3) { n, x = mix(n, key[i]); n = (n | 3); } } } }
		fn main(n) -> n, z { var z; stack s 2; while (z < n) { n = round(s[(z & 1)]); n = 3; z = (z + 1); s[1] = z; } }`)
	_, terms, errno := taken(t, "the cipher", p)
	if errno != api.OK {
		t.Fatal(errno)
	}
	q, _, _ := inline.Program(p)
	ends := map[api.Errno]int{}
	m := maker{rand.New(rand.NewSource(102))}
	for range 200 {
		in := m.input(p)
		in.Regions[1] = []uint64{one[uint64](m, 1, 2, 3), one[uint64](m, 1, 2, 3, 4), 2, m.Uint64()}
		ends[wantFollows(t, "the cipher", p, q, terms, in, m.Intn(300))]++
	}
	if ends[api.OK] < 20 || ends[api.ErrBounds] < 20 {
		t.Error("too few:", ends)
	}
}
