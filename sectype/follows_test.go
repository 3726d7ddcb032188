package sectype_test

import (
	"fmt"
	"math/rand"
	"slices"
	"strings"
	"sync"
	"testing"

	"muffle/api"
	"muffle/leak"
	"muffle/scope"
	"muffle/sectype"
	"muffle/source"
)

// maker makes programs that may be, whose secrets are often kept, and inputs; the same ones in each run.
type maker struct{ *rand.Rand }

// one is one of some, at hazard.
func one[T any](m maker, l ...T) T { return l[m.Intn(len(l))] }

// inside is what a place of a function that is made has: its words, those that may be set, those that are to stay public, those that may count here, and the functions that stand ahead.
type inside struct {
	words, set, public, count []string
	ahead                     []api.Func
}

// open makes an expression of what is to stay public, but for a slip now and then.
func (m maker) open(in inside, deep int) api.Expr {
	if m.Intn(25) > 0 {
		in.words = in.public
		return m.expr(in, deep, "r", "s", "out")
	}
	return m.any(in, deep)
}

func (m maker) any(in inside, deep int) api.Expr {
	return m.expr(in, deep, "r", "s", "out", "rs", "t", "key")
}

func (m maker) expr(in inside, deep int, arrays ...string) api.Expr {
	o := api.Op(1 + m.Intn(21))
	switch {
	case deep > 1 && (o == api.OpIndex || m.Intn(4) == 0):
		return index(one(m, arrays...), m.place(in, deep-1))
	case deep <= 1 || o == api.OpConst || o == api.OpVar:
		if m.Intn(3) == 0 || len(in.words) == 0 {
			return word(one(m, uint64(m.Intn(5)), m.Uint64()))
		}
		return name(one(m, in.words...))
	}
	args := 2
	switch o {
	case api.OpNot, api.OpNeg:
		args = 1
	case api.OpPick:
		args = 3
	}
	e := op(o)
	for range args {
		e.Args = append(e.Args, m.expr(in, deep-1, arrays...))
	}
	return e
}

// place makes one that is often within an array of four.
func (m maker) place(in inside, deep int) api.Expr {
	if m.Intn(3) == 0 {
		return word(uint64(m.Intn(4)))
	}
	return op(api.OpAnd, m.open(in, deep), word(one[uint64](m, 3, 3, 3, 3, 3, 3, 3, 7)))
}

func (m maker) stmts(in inside, deep int) stmts {
	var l stmts
	for range m.Intn(5) {
		l = append(l, m.stmt(in, deep))
	}
	return l
}

func (m maker) stmt(in inside, deep int) api.Stmt {
	kind := api.StmtKind(1 + m.Intn(6))
	size := 1 + m.Intn(3)
	switch {
	case kind == api.StPut && m.Intn(2) == 0:
		return put(one(m, "r", "s", "out"), m.place(in, 2), m.open(in, size))
	case kind == api.StPut:
		return put(one(m, "rs", "t", "key"), m.place(in, 2), m.any(in, size))
	case kind == api.StIf && deep > 0:
		return api.Stmt{Kind: kind, E: m.open(in, size), Body: m.stmts(in, deep-1), Else: m.stmts(in, deep-1)}
	case kind == api.StWhile && deep > 0:
		return api.Stmt{Kind: kind, E: m.open(in, size), Body: m.stmts(in, deep-1)}
	case kind == api.StFor && deep > 0 && len(in.count) > 0:
		low, inner := uint64(m.Intn(3)), in
		inner.count = in.count[1:]
		return api.Stmt{Kind: kind, Name: in.count[0], Low: low, High: low + uint64(m.Intn(4)), Body: m.stmts(inner, deep-1)}
	case kind == api.StCall && len(in.ahead) > 0:
		return m.call(in, one(m, in.ahead...))
	}
	n := one(m, in.set...)
	if slices.Contains(in.public, n) {
		return set(n, m.open(in, size))
	}
	return set(n, m.any(in, size))
}

func (m maker) call(in inside, f api.Func) api.Stmt {
	s := call(f.Name, nil)
	for _, v := range f.Params {
		if v.Secret {
			s.Args = append(s.Args, m.any(in, 2))
		} else {
			s.Args = append(s.Args, m.open(in, 2))
		}
	}
	for _, i := range m.Perm(len(in.set))[:len(f.Rets)] {
		s.Names = append(s.Names, in.set[i])
	}
	return s
}

// program makes a program of one to four functions.
func (m maker) program() api.Program {
	p := api.Program{Regions: []api.Region{{Name: "key", Addr: 128, Size: 4, Secret: true}, {Name: "out", Addr: 8, Size: 4}}}
	array := func(s string, kind api.VarKind, secret bool) api.Var {
		return api.Var{Name: s, Kind: kind, Size: 4, Secret: secret}
	}
	for i := range 1 + m.Intn(4) {
		f := api.Func{Name: fmt.Sprint("f", i)}
		f.Params = [][]api.Var{nil, {reg("n")}, {{Name: "k", Kind: api.VarReg, Secret: true}}, {reg("n"), {Name: "k", Kind: api.VarReg, Secret: true}}, {{Name: "k", Kind: api.VarReg, Secret: true}, reg("n")}}[m.Intn(5)]
		f.Vars = []api.Var{reg("x"), reg("y"), array("r", api.VarArray, false), reg("i"), array("rs", api.VarArray, true), reg("j"), array("s", api.VarStack, false), array("t", api.VarStack, true)}
		in := inside{words: []string{"x", "y", "i", "j"}, set: []string{"x", "y"}, public: []string{"x", "i", "j"}, count: []string{"i", "j"}, ahead: p.Funcs}
		for _, v := range f.Params {
			in.words, in.set = append(in.words, v.Name), append(in.set, v.Name)
			if !v.Secret {
				in.public = append(in.public, v.Name)
			}
		}
		for _, k := range m.Perm(len(in.set))[:m.Intn(3)] {
			f.Rets = append(f.Rets, in.set[k])
		}
		for len(f.Body) == 0 {
			f.Body = m.stmts(in, 3)
		}
		p.Funcs = append(p.Funcs, f)
	}
	return p
}

// inputs makes two that are alike.
func (m maker) inputs(p api.Program) (a, b api.Input) {
	word := func(secret bool) (uint64, uint64) {
		x, y := one(m, 0, 1, 2, 3, m.Uint64()), one(m, 0, 1, 2, 3, m.Uint64())
		if !secret {
			y = x
		}
		return x, y
	}
	for _, v := range p.Funcs[len(p.Funcs)-1].Params {
		x, y := word(v.Secret)
		a.Args, b.Args = append(a.Args, x), append(b.Args, y)
	}
	for _, r := range p.Regions {
		var l, other []uint64
		for range r.Size {
			x, y := word(r.Secret)
			l, other = append(l, x), append(other, y)
		}
		a.Regions, b.Regions = append(a.Regions, l), append(b.Regions, other)
	}
	return a, b
}

// P9.1: made programs, held against the models; some begin near the greatest number of statements.
func TestMade(t *testing.T) {
	m := maker{rand.New(rand.NewSource(91))}
	tells := map[string]int{}
	for i := range 3500 {
		p := m.program()
		if errno := scope.May(p); errno != api.OK {
			t.Fatal(errno, p)
		}
		what := fmt.Sprint("program ", i)
		l, errno := modelCheck(p)
		want(t, what, p, told(l, errno))
		if rets, wrong := trialCheck(p); wrong != (errno == api.ErrSecret) || !wrong && told(rets, api.OK) != told(l, errno) {
			t.Errorf("%s: %s; but of the least levels %v, %v", what, told(l, errno), rets, wrong)
		}
		tells[errno.Error()]++
		if i%10 == 0 {
			full := laidAhead(p, api.MaxSize-m.Intn(60))
			l, errno := modelCheck(full)
			want(t, what+", far behind", full, told(l, errno))
			tells["far behind: "+errno.Error()]++
		}
		if t.Failed() {
			t.FailNow()
		}
	}
	for _, s := range []string{api.OK.Error(), refused} {
		if tells[s] < 700 || tells["far behind: "+s] < 30 || tells["far behind: "+many] < 50 {
			t.Error("too few:", tells)
		}
	}
}

// P9.2: made expressions, held against the model.
func TestLevelMade(t *testing.T) {
	m := maker{rand.New(rand.NewSource(92))}
	tells := map[string]int{}
	p := program(t, "region key 0 4 secret; region out 64 4; fn f(n, k secret) { var x; var y; array r 4; array rs 4 secret; stack s 4; stack t 4 secret; }")
	all := []string{"n", "k", "x", "y"}
	for range 8000 {
		e := m.any(inside{words: all, public: []string{"n", "x"}}, 1+m.Intn(5))
		w := words{}
		for _, n := range all {
			if m.Intn(20) > 0 {
				w[n] = m.Intn(3) == 0
			}
		}
		got := level(t, "a made one", p, 0, e, w)
		tells[got]++
		secret, errno := (&model{p: p}).expr(p.Funcs[0], e, w)
		is := errno.Error()
		if errno == api.OK {
			is = told([]bool{secret}, api.OK)
		}
		if !hasWords(e, w) {
			is = api.ErrArg.Error()
		}
		if got != is {
			t.Fatalf("%v, of %v: %s, not %s", e, w, got, is)
		}
	}
	for _, s := range []string{"s", "p", refused, api.ErrArg.Error()} {
		if tells[s] < 300 {
			t.Error("too few:", tells)
		}
	}
}

func hasWords(e api.Expr, w words) bool {
	_, is := w[e.Name]
	return (e.Op != api.OpVar || is) && !slices.ContainsFunc(e.Args, func(e api.Expr) bool { return !hasWords(e, w) })
}

// ends counts how pairs of runs ended, and how many answers and regions differed that may.
type ends struct{ ok, fuel, bounds, unlike int }

// wantAsMuch wants of two inputs that are alike, with so many steps, what P9.4 says.
func wantAsMuch(t *testing.T, what string, p api.Program, levels []bool, a, b api.Input, fuel int, n *ends) {
	t.Helper()
	x, errno := source.Run(p, a, fuel)
	y, other := source.Run(p, b, fuel)
	if errno != api.OK || other != api.OK {
		t.Fatal(what, errno, other)
	}
	if x.Errno == api.ErrBounds || y.Errno == api.ErrBounds {
		n.bounds++
		return
	}
	if x.Errno != y.Errno || !leak.Same(x.Leak, y.Leak) || x.Steps != y.Steps || x.Asked != y.Asked {
		t.Fatalf("%s, with %d: unlike: %v, %v: %v, %v", what, fuel, x, y, a, b)
	}
	if x.Errno == api.ErrFuel {
		n.fuel++
		return
	}
	n.ok++
	for i, secret := range levels {
		if x.Out.Rets[i] != y.Out.Rets[i] {
			n.unlike++
			if !secret {
				t.Fatalf("%s: unlike in the answer %d: %v, %v", what, i, x.Out, y.Out)
			}
		}
	}
	for i, r := range p.Regions {
		if !slices.Equal(x.Out.Regions[i], y.Out.Regions[i]) {
			n.unlike++
			if !r.Secret {
				t.Fatalf("%s: unlike in the region %s: %v, %v", what, r.Name, x.Out, y.Out)
			}
		}
	}
}

// P9.4, P0.2: of made programs of kept secrets, two inputs that are alike, with each number of steps.
func TestNothingMore(t *testing.T) {
	m := maker{rand.New(rand.NewSource(94))}
	var n ends
	for i := range 2000 {
		p := m.program()
		levels, errno := sectype.Check(p)
		if errno != api.OK {
			continue
		}
		for range 2 {
			a, b := m.inputs(p)
			what := fmt.Sprint("program ", i)
			wantAlike(t, what, p, a, b, true)
			for fuel := range 40 {
				wantAsMuch(t, what, p, levels, a, b, fuel, &n)
			}
			wantAsMuch(t, what, p, levels, a, b, 2000, &n)
		}
	}
	if n.ok < 5000 || n.fuel < 5000 || n.bounds < 500 || n.unlike < 5000 {
		t.Error("too few:", n)
	}
}

// P9.4, P0.2: a cipher of two words, whose key is secret; its places and branches hang on a public word.
func TestCipher(t *testing.T) {
	p := program(t, `
		region key 0 4 secret;
		region out 64 2;
		fn mix(v secret, k secret, sum) -> w { var w; w = (((v << 4) ^ (v >> 5)) + v); w = (w ^ (sum + k)); }
		fn main(a secret, b secret, n) -> a, b, sum {
			var sum; var w; var i; var k;
			while (i < n) { }
			for i 0 8 {
				k = key[(sum & 3)];
				w = mix(b, k, sum);
				a = (a + w);
				sum = (sum + 2654435769);
				k = key[((sum >> 11) & 3)];
				if (sum & 1) { w = mix(a, k, sum); } else { w = mix(~a, k, sum); }
				b = (b + w);
				out[(i & 1)] = sum;
				while n { n = (n - 1); }
			}
		}`)
	levels, errno := sectype.Check(p)
	if told(levels, errno) != "ssp" {
		t.Fatal(told(levels, errno))
	}
	m := maker{rand.New(rand.NewSource(95))}
	var n ends
	for range 40 {
		a, b := m.inputs(p)
		a.Args[2], b.Args[2] = 0, 0
		for fuel := range 160 {
			wantAsMuch(t, "a cipher", p, levels, a, b, fuel, &n)
		}
		a.Args[2], b.Args[2] = 3, 3
		wantAsMuch(t, "one that ends not", p, levels, a, b, 140, &n)
	}
	if n.ok < 1000 || n.fuel < 1000 || n.bounds > 0 || n.unlike < 1000 {
		t.Error("too few:", n)
	}
	// What breaks it: each of these leaks a secret.
	text := "region key 0 4 secret; region out 64 2; fn f(a secret, n) -> a, n { var x; var i; x = key[n]; BAD n = 0; }"
	wantText(t, strings.Replace(text, "BAD", "", 1), "sp")
	for _, bad := range []string{"if x { }", "out[0] = x;", "out[x] = 0;", "while a { a = 0; }", "i = x; if i { }", "x = key[(x & 3)];", "for i 0 2 { n = (n + x); } if n { }"} {
		q := strings.Replace(text, "BAD", bad, 1)
		if strings.HasPrefix(bad, "for") {
			q = strings.Replace(q, "var i;", "var i; var j;", 1)
		}
		wantText(t, q, refused)
	}
}

// P0.7, P0.8: what nests as deep as may be: functions that call each other, each from within as many statements as there may be.
func TestDeepest(t *testing.T) {
	for _, kind := range []api.StmtKind{api.StIf, api.StWhile, api.StFor} {
		var p api.Program
		for i := range api.MaxFuncs {
			f := api.Func{Name: fmt.Sprint("f", i), Params: []api.Var{{Name: "x", Kind: api.VarReg, Secret: true}}, Vars: []api.Var{reg("y")}, Rets: []string{"y"}}
			f.Body = stmts{set("y", name("x"))}
			if i > 0 {
				f.Body = stmts{call(fmt.Sprint("f", i-1), []string{"y"}, word(1))}
			}
			for k := range api.MaxNest - 2 {
				s := api.Stmt{Kind: kind, Body: f.Body}
				if kind == api.StFor {
					s.Name = fmt.Sprint("i", k)
					f.Vars = append(f.Vars, reg(s.Name))
				} else {
					s.E = word(1)
				}
				f.Body = stmts{s}
			}
			p.Funcs = append(p.Funcs, f)
		}
		if errno := scope.May(p); errno != api.OK {
			t.Fatal(errno)
		}
		l, errno := modelCheck(p)
		want(t, fmt.Sprint("the deepest, of the kind ", kind), p, told(l, errno))
		// Loops go round once more for each function's answer: too often, in all.
		if levels := map[api.StmtKind]string{api.StIf: "s", api.StWhile: many, api.StFor: many}[kind]; told(l, errno) != levels {
			t.Error(kind, told(l, errno))
		}
	}
}

// P9.1 to P9.3: calls at one time do not meet.
func TestAtOneTime(t *testing.T) {
	p := mainOf(t, "while n { z = y; y = x; x = hide(k); }")
	q := mainOf(t, "while x { x = y; y = k; }")
	in := api.Input{Args: []uint64{1, 2}, Regions: [][]uint64{make([]uint64, 4), make([]uint64, 4)}}
	w := words{"k": true, "n": false}
	e := expr(t, "(r[n] + k)")
	var all sync.WaitGroup
	for range 8 {
		all.Go(func() {
			for range 50 {
				l, errno := sectype.Check(p)
				_, other := sectype.Check(q)
				if told(l, errno) != "sss" || other != api.ErrSecret {
					t.Error(told(l, errno), other)
				}
				if secret, errno := sectype.Level(p, 4, e, w); !secret || errno != api.OK {
					t.Error(secret, errno)
				}
				if !sectype.Alike(p, in, in) {
					t.Error("not alike")
				}
			}
		})
	}
	all.Wait()
}
