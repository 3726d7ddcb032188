package pretty_test

import (
	"math/rand"
	"testing"

	"muffle/api"
	"muffle/lex"
	"muffle/pretty"
)

// told remembers which program has which text.
type told map[string]api.Program

// want wants a program to have a text that no other one has.
func (m told) want(t *testing.T, p api.Program) {
	t.Helper()
	text, errno := pretty.Text(p)
	if errno != api.OK {
		t.Fatalf("%v of %v", errno, p)
	}
	if old, is := m[text]; is && !pretty.Same(old, p) {
		t.Errorf("one text of two: %q", text)
	}
	m[text] = p
}

// someExprs are all expressions that are made of some by one operation, and these.
func someExprs(l exprs) exprs {
	out := l
	for _, a := range l {
		out = append(out, index("r", a), index("x", a), op(api.OpNot, a), op(api.OpNeg, a))
		for _, b := range l {
			for o := api.OpAdd; o <= api.OpLe; o++ {
				out = append(out, op(o, a, b))
			}
			out = append(out, op(api.OpPick, a, b, a), op(api.OpPick, a, a, b), op(api.OpPick, b, a, a))
		}
	}
	return out
}

// P5.4: unlike expressions have unlike texts.
func TestUnlikeExprs(t *testing.T) {
	all := someExprs(someExprs(exprs{name("x"), word(1)}))
	texts := map[string]int{}
	for i, e := range all {
		text, errno := pretty.Expr(e)
		if errno != api.OK {
			t.Fatal(errno)
		}
		if j, is := texts[text]; is && !pretty.SameExpr(all[j], e) {
			t.Errorf("one text of two: %q", text)
		}
		texts[text] = i
	}
	if len(texts) < 50000 {
		t.Error("too few:", len(texts))
	}
}

// P5.4: unlike programs have unlike texts: all small ones of a few parts.
func TestUnlikePrograms(t *testing.T) {
	m := told{}
	x := name("x")
	small := stmts{set("x", x), set("f", x), put("x", x, x), set("x", index("x", x)), when(x, nil, nil), while(x), rounds("x", 0, 1), call(nil, "f"), call(nil, "x"), call([]string{"x"}, "f"), call([]string{"x", "f"}, "x", x), call([]string{"x"}, "f", x, x)}
	var lists []stmts
	lists = append(lists, nil)
	for _, a := range small {
		lists = append(lists, stmts{a})
		for _, b := range small {
			lists = append(lists, stmts{a, b})
		}
	}
	for _, a := range lists {
		m.want(t, program(a...))
		for _, b := range lists[:40] {
			m.want(t, program(when(x, a, b)))
			m.want(t, program(append(stmts{when(x, a, nil)}, b...)...))
			m.want(t, program(append(stmts{while(x, a...)}, b...)...))
			m.want(t, program(append(stmts{rounds("x", 0, 1, a...)}, b...)...))
			m.want(t, api.Program{Funcs: []api.Func{{Name: "f", Body: a}, {Name: "f", Body: b}}})
		}
	}
	for _, kind := range []api.VarKind{1, 2, 3} {
		for size := range 3 {
			for _, secret := range []bool{false, true} {
				v := api.Var{Name: "x", Kind: kind, Size: size, Secret: secret}
				for _, w := range []api.Var{{Name: "y", Kind: 1}, {Name: "x", Kind: 2, Size: 2}, {Name: "x", Kind: 3, Secret: true}} {
					if kind > 1 || size == 0 && !secret {
						m.want(t, api.Program{Funcs: []api.Func{{Name: "f", Vars: vars{v, w}}}})
						m.want(t, api.Program{Funcs: []api.Func{{Name: "f", Vars: vars{w, v}, Rets: []string{"x"}}}})
						m.want(t, api.Program{Funcs: []api.Func{{Name: "f", Vars: vars{v}, Rets: []string{"x", "x"}, Body: lists[2]}}})
					}
				}
				m.want(t, api.Program{Regions: []api.Region{{Name: "x", Addr: int(kind), Size: size, Secret: secret}}})
				m.want(t, api.Program{Regions: []api.Region{{Name: "x", Size: size, Secret: secret}}, Funcs: []api.Func{{Name: "x", Params: vars{{Name: "x", Kind: 1, Secret: secret}}}}})
			}
		}
	}
	if len(m) < 10000 {
		t.Error("too few:", len(m))
	}
}

// P5.1, P5.4: made programs, and these changed in one place.
func TestSomePrograms(t *testing.T) {
	r := maker{rand.New(rand.NewSource(54))}
	m := told{}
	for i := range 300 {
		p := r.program()
		want := modelText(p)
		if len(want) > 65536 {
			continue
		}
		wantText(t, p, want)
		m.want(t, p)
		if i%10 > 0 || len(want) > 3000 {
			continue
		}
		eachChange(&p, func(what string) {
			if !modelMay(p) {
				wantNoText(t, what, p)
			} else if text, errno := pretty.Text(p); text == want || text != modelText(p) || errno != api.OK {
				t.Errorf("%s: %v, %q", what, errno, text)
			}
		})
	}
}

// P5.4: a text's tokens stand as they are, with all their signs and names, so that it can be read.
func TestTextsTokens(t *testing.T) {
	r := maker{rand.New(rand.NewSource(55))}
	for range 300 {
		text, errno := pretty.Text(r.program())
		if errno != api.OK {
			continue
		}
		if _, f := lex.All(text); f.Errno != api.OK {
			t.Errorf("%v of %q", f, text)
		}
	}
}
