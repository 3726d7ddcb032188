package scope_test

import (
	"math/rand"
	"reflect"
	"slices"
	"testing"

	"muffle/api"
	"muffle/scope"
)

// maker makes programs that may be; the same ones in each run.
type maker struct{ *rand.Rand }

// one is one of some, at hazard.
func one[T any](m maker, l ...T) T { return l[m.Intn(len(l))] }

func (m maker) word() uint64 { return m.Uint64() >> uint(m.Intn(65)) }

func (m maker) expr(words, arrays []string, deep int) api.Expr {
	o := api.Op(1 + m.Intn(21))
	switch {
	case deep <= 1 || o == api.OpConst:
		if m.Intn(2) == 0 {
			return word(m.word())
		}
		return name(one(m, words...))
	case o == api.OpVar:
		return name(one(m, words...))
	case o == api.OpIndex:
		return index(one(m, arrays...), m.expr(words, arrays, deep-1))
	}
	args, _ := modelArgs(o)
	e := op(o)
	for range args {
		e.Args = append(e.Args, m.expr(words, arrays, deep-1))
	}
	return e
}

// inside is what a function that is made has: its words, those that may be set, those that may count here, and its arrays.
type inside struct {
	words, set, count, arrays []string
	ahead                     []api.Func
}

func (m maker) stmts(in inside, deep int) stmts {
	var l stmts
	e := func() api.Expr { return m.expr(in.words, in.arrays, 1+m.Intn(3)) }
	for range m.Intn(4) {
		kind := api.StmtKind(1 + m.Intn(6))
		switch {
		case kind == api.StPut:
			l = append(l, put(one(m, in.arrays...), e(), e()))
		case kind == api.StIf && deep > 0:
			l = append(l, when(e(), m.stmts(in, deep-1), m.stmts(in, deep-1)))
		case kind == api.StWhile && deep > 0:
			l = append(l, while(e(), m.stmts(in, deep-1)...))
		case kind == api.StFor && len(in.count) > 0:
			low, inner := uint64(m.Intn(9)), in
			inner.count = in.count[1:]
			l = append(l, rounds(in.count[0], low, low+uint64(m.Intn(9)), m.stmts(inner, deep-1)...))
		case kind == api.StCall && len(in.ahead) > 0:
			f := one(m, in.ahead...)
			s := call(nil, f.Name)
			for range f.Params {
				s.Args = append(s.Args, e())
			}
			s.Names = append(s.Names, in.set[:len(f.Rets)]...)
			l = append(l, s)
		default:
			l = append(l, set(one(m, in.set...), e()))
		}
	}
	return l
}

// program makes a program of one to four functions.
func (m maker) program() api.Program {
	p := api.Program{Regions: []api.Region{{Name: "key", Addr: 8 * m.Intn(9), Size: 1 + m.Intn(4), Secret: m.Intn(2) == 0}, {Name: "out", Addr: 1024, Size: 512}}}
	for i := range 1 + m.Intn(4) {
		f := api.Func{Name: numbered("f", i), Params: vars{{Name: "p", Kind: api.VarReg, Secret: m.Intn(2) == 0}, reg("q")}[:m.Intn(3)]}
		f.Vars = vars{reg("x"), reg("y"), {Name: "r", Kind: api.VarArray, Size: 1 + m.Intn(9), Secret: m.Intn(2) == 0}, reg("i"), reg("j"), {Name: "s", Kind: api.VarStack, Size: 1 + m.Intn(9), Secret: m.Intn(2) == 0}}
		f.Rets = []string{"y", "x"}[:m.Intn(3)]
		in := inside{words: []string{"x", "y", "i", "j"}, set: []string{"x", "y"}, count: []string{"i", "j"}, arrays: []string{"r", "s", "key", "out"}, ahead: p.Funcs}
		for _, v := range f.Params {
			in.words, in.set = append(in.words, v.Name), append(in.set, v.Name)
		}
		f.Body = m.stmts(in, 3)
		p.Funcs = append(p.Funcs, f)
	}
	return p
}

// P7.1: a program that may be, changed in one place at a time.
func TestEachChange(t *testing.T) {
	told := map[api.Errno]int{}
	p := whole()
	eachChange(&p, func(what string) {
		want := modelMay(p)
		told[want]++
		wantMay(t, what, p, want)
	})
	for _, e := range []api.Errno{api.OK, api.ErrMany, api.ErrName, api.ErrBounds, api.ErrKind, api.ErrArg} {
		if told[e] < 20 {
			t.Error("too few:", e, told[e])
		}
	}
	if !reflect.DeepEqual(p, whole()) {
		t.Error("a program was changed that was handed in")
	}
}

// P7.1: made programs; these changed in one place, and in some at once.
func TestMayMade(t *testing.T) {
	m := maker{rand.New(rand.NewSource(71))}
	told := map[api.Errno]int{}
	for i := range 150 {
		// A clone, so that each list stands in one place alone.
		p := scope.Clone(m.program())
		wantMay(t, "a made one", p, api.OK)
		wantSize(t, "a made one", p, modelSize(p))
		if f := &p.Funcs[len(p.Funcs)-1]; i%3 == 0 {
			// So deep that some of it may be too deep.
			f.Body = stmts{within(57+m.Intn(8), when(word(1), f.Body, nil), wraps()["while"])}
		}
		was := modelMay(p)
		l := changes(reflect.ValueOf(&p).Elem(), "")
		for range 60 {
			what := ""
			var backs []func()
			for range 1 + m.Intn(4) {
				c := l[m.Intn(len(l))]
				what += " " + c.what
				backs = append(backs, c.lay())
			}
			want := modelMay(p)
			told[want]++
			wantMay(t, what, p, want)
			wantSize(t, what, p, modelSize(p))
			for _, back := range slices.Backward(backs) {
				back()
			}
		}
		wantMay(t, "one as it was", p, was)
	}
	for _, e := range []api.Errno{api.OK, api.ErrMany, api.ErrName, api.ErrBounds, api.ErrKind, api.ErrArg, api.ErrNest} {
		if told[e] < 20 {
			t.Error("too few:", e, told[e])
		}
	}
}
