package pretty_test

import (
	"slices"
	"strings"
	"testing"

	"muffle/api"
	"muffle/pretty"
)

// P5.1: a program that has everything, to the byte.
func TestWhole(t *testing.T) {
	wantText(t, whole(), wholeText)
	if modelText(whole()) != wholeText {
		t.Errorf("the tests' own text is another one: %s", modelText(whole()))
	}
}

// P5.1: programs without much.
func TestSmallTexts(t *testing.T) {
	wantText(t, api.Program{}, "")
	wantText(t, api.Program{Regions: []api.Region{}, Funcs: []api.Func{}}, "")
	wantText(t, api.Program{Regions: []api.Region{{Name: "r"}}}, "region r 0 0;\n")
	wantText(t, api.Program{Funcs: []api.Func{{Name: "f"}}}, "fn f() {\n}\n")
	wantText(t, program(when(name("x"), nil, nil)), "fn f() {\n\tif x {\n\t}\n}\n")
	wantText(t, program(when(name("x"), stmts{}, stmts{})), "fn f() {\n\tif x {\n\t}\n}\n")
	wantText(t, program(call([]string{}, "f", exprs{}...)), "fn f() {\n\tf();\n}\n")
	wantText(t, program(call([]string{"a"}, "f")), "fn f() {\n\ta = f();\n}\n")
	wantText(t, program(call([]string{"a", "b", "c"}, "f", word(1), word(2))), "fn f() {\n\ta, b, c = f(1, 2);\n}\n")
	wantText(t, api.Program{Funcs: []api.Func{{Name: "f", Rets: []string{"a"}}, {Name: "f", Rets: []string{"a", "a", "b"}}}}, "fn f() -> a {\n}\nfn f() -> a, a, b {\n}\n")
	params := vars{{Name: "x", Kind: api.VarReg, Secret: true}, {Name: "y", Kind: api.VarReg, Secret: true}}
	wantText(t, api.Program{Funcs: []api.Func{{Name: "f", Params: params}}}, "fn f(x secret, y secret) {\n}\n")
	// Empty lists where there is nothing are as none.
	s := api.Stmt{Kind: api.StSet, Name: "x", Names: []string{}, E: api.Expr{Op: api.OpVar, Name: "y", Args: exprs{}}, A: api.Expr{Args: exprs{}}, Args: exprs{}, Body: stmts{}, Else: stmts{}}
	wantText(t, program(s), "fn f() {\n\tx = y;\n}\n")
}

// P5.1: expressions.
func TestExprs(t *testing.T) {
	x, y := name("x"), name("y")
	wantExpr(t, word(0), "0", api.OK)
	wantExpr(t, word(1<<64-1), "18446744073709551615", api.OK)
	wantExpr(t, word(1<<63), "9223372036854775808", api.OK)
	wantExpr(t, word(1000), "1000", api.OK)
	wantExpr(t, x, "x", api.OK)
	wantExpr(t, index("r", nots(1, x)), "r[~x]", api.OK)
	wantExpr(t, index("r", index("s", word(7))), "r[s[7]]", api.OK)
	wantExpr(t, op(api.OpNeg, op(api.OpNeg, word(5))), "--5", api.OK)
	wantExpr(t, op(api.OpNeg, op(api.OpSub, x, op(api.OpNeg, y))), "-(x - -y)", api.OK)
	wantExpr(t, op(api.OpPick, word(1), word(2), word(3)), "pick(1, 2, 3)", api.OK)
	wantExpr(t, op(api.OpPick, op(api.OpPick, x, y, x), index("r", x), nots(2, y)), "pick(pick(x, y, x), r[x], ~~y)", api.OK)
	for i, sign := range signTexts() {
		o := api.OpAdd + api.Op(i)
		wantExpr(t, op(o, x, y), "(x "+sign+" y)", api.OK)
		wantExpr(t, op(o, op(o, x, word(1)), op(api.OpAdd, y, x)), "((x "+sign+" 1) "+sign+" (y + x))", api.OK)
	}
}

// P5.1: expressions that can't be told.
func TestNoExprs(t *testing.T) {
	x := name("x")
	for o := api.Op(-3); o <= 25; o++ {
		for n := range 6 {
			for _, base := range []api.Expr{{}, {Word: 1}, {Name: "r"}, {Word: 1, Name: "r"}} {
				e := base
				e.Op = o
				for range n {
					e.Args = append(e.Args, x)
				}
				want, wantErrno := "", api.ErrArg
				if modelExpr(e) {
					want, wantErrno = modelExprText(e), api.OK
				}
				wantExpr(t, e, want, wantErrno)
				wantExpr(t, op(api.OpMul, x, nots(2, e)), map[bool]string{true: "(x * ~~" + want + ")"}[wantErrno == api.OK], wantErrno)
			}
		}
	}
	for _, e := range []api.Expr{{}, {Op: 1 << 62}, {Op: -1 << 63}, {Args: exprs{x}}, op(api.OpNot, api.Expr{}), op(api.OpAdd, x, api.Expr{}), index("r", api.Expr{})} {
		wantExpr(t, e, "", api.ErrArg)
	}
}

// wrongNames are no names; each is one by one byte less or more, or nearly.
func wrongNames() []string {
	return append(ownWords(), "", "1", "1a", "_", "_a", "A", "aB", "a b", " a", "a\n", "a;", "a\x00", "é", "\xff", "a-b", "abcdefghijklmnopq", strings.Repeat("a", 65537))
}

// withName is a program in which one name is this, for each place of a name.
func withName(s string) map[string]api.Program {
	f := func(f api.Func) api.Program { return api.Program{Funcs: []api.Func{f}} }
	return map[string]api.Program{
		"region": {Regions: []api.Region{{Name: s}}},
		"func":   f(api.Func{Name: s}),
		"param":  f(api.Func{Name: "f", Params: vars{{Name: "x", Kind: api.VarReg}, {Name: s, Kind: api.VarReg}}}),
		"var":    f(api.Func{Name: "f", Vars: vars{{Name: "x", Kind: api.VarReg}, {Name: s, Kind: api.VarReg}}}),
		"array":  f(api.Func{Name: "f", Vars: vars{{Name: s, Kind: api.VarArray}}}),
		"stack":  f(api.Func{Name: "f", Vars: vars{{Name: s, Kind: api.VarStack}}}),
		"ret":    f(api.Func{Name: "f", Rets: []string{"x", s}}),
		"set":    program(set(s, word(1))),
		"put":    program(put(s, word(1), word(1))),
		"for":    program(rounds(s, 1, 2)),
		"call":   program(call(nil, s)),
		"names":  program(call([]string{"x", s}, "f")),
		"word":   program(set("x", name(s))),
		"index":  program(set("x", index(s, word(1)))),
		"args":   program(call(nil, "f", word(1), name(s))),
		"place":  program(put("r", name(s), word(1))),
		"if":     program(when(name(s), nil, nil)),
		"while":  program(while(name(s))),
		"else":   program(when(word(1), nil, stmts{set("x", word(1)), set(s, word(1))})),
	}
}

// P5.1: each name is one.
func TestNames(t *testing.T) {
	for _, s := range []string{"a", "z", "x_1", "a_", "abcdefghijklmnop", "fort", "ifs", "pick_", "secrets"} {
		for _, p := range withName(s) {
			wantText(t, p, modelText(p))
		}
	}
	for _, s := range wrongNames() {
		for what, p := range withName(s) {
			wantNoText(t, what+" "+s[:min(len(s), 20)], p)
		}
		wantExpr(t, name(s), "", api.ErrArg)
		wantExpr(t, index(s, word(1)), "", api.ErrArg)
	}
}

// P5.1: regions and variables.
func TestRegionsAndVars(t *testing.T) {
	for _, n := range []int{-1 << 63, -8, -1, 0, 1, 512, 513, 65536, 1<<31 - 1, 1<<63 - 1} {
		for _, p := range []api.Program{
			{Regions: []api.Region{{Name: "r", Addr: n}}}, {Regions: []api.Region{{Name: "r", Size: n, Secret: true}}},
			{Regions: []api.Region{{Name: "q"}, {Name: "r", Addr: n, Size: n}}},
		} {
			wantMay(t, p)
		}
		for kind := api.VarKind(-2); kind <= 6; kind++ {
			for _, secret := range []bool{false, true} {
				v := api.Var{Name: "x", Kind: kind, Size: n, Secret: secret}
				wantMay(t, api.Program{Funcs: []api.Func{{Name: "f", Params: vars{v}}}})
				wantMay(t, api.Program{Funcs: []api.Func{{Name: "f", Vars: vars{v}}}})
			}
		}
	}
}

// wantMay wants of a program what the tests say of it.
func wantMay(t *testing.T, p api.Program) {
	t.Helper()
	if modelMay(p) {
		wantText(t, p, modelText(p))
	} else {
		wantNoText(t, "the program", p)
	}
}

// P5.1: what a kind of statement does not name, set, one field at a time; and what it names, zero.
func TestStatementsFields(t *testing.T) {
	x := name("x")
	full := api.Stmt{Name: "x", Names: []string{"x"}, E: x, A: x, Args: exprs{x}, Low: 1, High: 2, Body: stmts{set("x", x)}, Else: stmts{set("x", x)}}
	fields := map[string]func(to, from *api.Stmt){
		"Name":  func(to, from *api.Stmt) { to.Name = from.Name },
		"Names": func(to, from *api.Stmt) { to.Names = from.Names },
		"E":     func(to, from *api.Stmt) { to.E = from.E },
		"A":     func(to, from *api.Stmt) { to.A = from.A },
		"Args":  func(to, from *api.Stmt) { to.Args = from.Args },
		"Low":   func(to, from *api.Stmt) { to.Low = from.Low },
		"High":  func(to, from *api.Stmt) { to.High = from.High },
		"Body":  func(to, from *api.Stmt) { to.Body = from.Body },
		"Else":  func(to, from *api.Stmt) { to.Else = from.Else },
	}
	for kind := api.StmtKind(-2); kind <= 9; kind++ {
		named := strings.Fields(fieldsOf(kind))
		s := api.Stmt{Kind: kind}
		for _, f := range named {
			fields[f](&s, &full)
		}
		if len(named) == 0 {
			wantNoText(t, "no kind", program(s))
		} else {
			wantText(t, program(s), modelText(program(s)))
		}
		for f, lay := range fields {
			with, without := s, s
			lay(&with, &full)
			lay(&without, &api.Stmt{})
			if len(named) == 0 || !slices.Contains(named, f) {
				wantNoText(t, f, program(with))
				wantNoText(t, f+" within", program(when(x, nil, stmts{while(x, with)})))
			} else if slices.Contains([]string{"Name", "E", "A"}, f) {
				wantNoText(t, "without "+f, program(without))
			} else {
				wantText(t, program(without), modelText(program(without)))
			}
		}
	}
}

// P5.1: an expression that is not named is wrong with one field of it already.
func TestUnnamedExprs(t *testing.T) {
	for _, e := range []api.Expr{{Op: api.OpConst}, {Op: -1}, {Word: 1}, {Name: "x"}, {Args: exprs{{}}}, {Args: exprs{name("x")}}} {
		s := set("x", word(1))
		s.A = e
		wantNoText(t, "a set", program(s))
		s = rounds("x", 1, 2)
		s.E = e
		wantNoText(t, "a for", program(s))
		s = call(nil, "f")
		s.A = e
		wantNoText(t, "a call", program(s))
	}
}

// P5.1, P5.3, P5.4: a program that has everything, changed in one place at a time, in all places.
func TestEachChange(t *testing.T) {
	p, old := whole(), whole()
	texts := map[string]string{wholeText: "nothing"}
	n, may := 0, 0
	eachChange(&p, func(what string) {
		n++
		if pretty.Same(p, old) || pretty.Same(old, p) || !pretty.Same(p, p) {
			t.Error("Same, where", what)
		}
		if !modelMay(p) {
			wantNoText(t, what, p)
			return
		}
		may++
		text, errno := pretty.Text(p)
		if errno != api.OK || text != modelText(p) {
			t.Errorf("%s: %v, %s", what, errno, text)
		}
		if text == wholeText {
			t.Error("the same text where", what)
		}
		texts[text] = what
	})
	if !pretty.Same(p, old) || !pretty.Same(p, whole()) {
		t.Error("a call has changed what it was handed")
	}
	if may < 200 || n-may < 2000 {
		t.Error("the changes try too little:", n, may)
	}
}

// P5.1: ErrLong, of a text of one byte more than may be, and behind ErrArg.
func TestLongTexts(t *testing.T) {
	long := func(n int) api.Program {
		// With one statement it has 19 bytes; each other one has 8, and the last one more, by its name.
		p := program(set("x", name("y")))
		for left := n - 19; left > 0; {
			s := set("x", name("y"))
			if left < 16 {
				s.Name = strings.Repeat("x", left-7)
				left = 0
			} else {
				left -= 8
			}
			p.Funcs[0].Body = append(p.Funcs[0].Body, s)
		}
		return p
	}
	for n := 65520; n < 65560; n++ {
		p := long(n)
		if want := modelText(p); len(want) != n {
			t.Fatal("the test's text is not as long as it should be:", len(want), n)
		}
		if n <= 65536 {
			wantText(t, p, modelText(p))
			continue
		}
		wantTooLong(t, p)
		p.Funcs = append(p.Funcs, api.Func{Name: "for"})
		wantNoText(t, "a long text", p)
	}
	regions := slices.Repeat([]api.Region{{Name: "abcdefghijklmnop", Addr: 1 << 62, Size: 1 << 62, Secret: true}}, 65536/72)
	wantTooLong(t, api.Program{Regions: append(regions, regions[0], regions[0])})
	wantTooLong(t, api.Program{Funcs: slices.Repeat([]api.Func{{Name: "f"}}, 65536)})
	wantTooLong(t, api.Program{Funcs: []api.Func{{Name: "f", Vars: slices.Repeat(vars{{Name: "f", Kind: 1}}, 65536)}}})
	wantTooLong(t, api.Program{Funcs: []api.Func{{Name: "f", Params: slices.Repeat(vars{{Name: "f", Kind: 1}}, 65536)}}})
	// Wherever in a function the text grows too long, more functions stand behind: 75 bytes each, behind regions of 14.
	f := api.Func{Name: "f", Vars: slices.Repeat(vars{{Name: "f", Kind: 1}}, 3), Body: stmts{set("x", name("y")), while(name("x"), rounds("i", 0, 1))}}
	for n := range 75 {
		wantTooLong(t, api.Program{Regions: slices.Repeat([]api.Region{{Name: "r"}}, n), Funcs: slices.Repeat([]api.Func{f}, 1000)})
	}
	wantTooLong(t, program(call(slices.Repeat([]string{"x"}, 1<<20), "f", slices.Repeat(exprs{word(1 << 63)}, 1<<18)...)))
	// The last function's lines are 14 bytes: the text is too long by the first, or by the last line alone.
	for n := range 16 {
		p := long(65536 - 15 + n)
		p.Funcs = append(p.Funcs, api.Func{Name: "abcd"})
		if n > 1 {
			wantTooLong(t, p)
		} else {
			wantText(t, p, modelText(p))
		}
	}
}

func wantTooLong(t *testing.T, p api.Program) {
	t.Helper()
	if got, errno := pretty.Text(p); got != "" || errno != api.ErrLong || !pretty.May(p) {
		t.Errorf("of a text that is too long: %.100q, %v", got, errno)
	}
}

// P5.1: ErrLong of an expression.
func TestLongExprs(t *testing.T) {
	// A tree of sums of 2^12 words of 11 bytes has 2^12 * 11 + (2^12 - 1) * 5 = 65531 bytes.
	e := name("abcdefghijk")
	for range 12 {
		e = op(api.OpAdd, e, e)
	}
	for n := range 5 {
		wantExpr(t, nots(n, e), strings.Repeat("~", n)+modelExprText(e), api.OK)
	}
	if text := modelExprText(nots(5, e)); len(text) != 65536 {
		t.Fatal("the test's text is not as long as it should be:", len(text))
	}
	wantExpr(t, nots(5, e), modelExprText(nots(5, e)), api.OK)
	wantExpr(t, nots(6, e), "", api.ErrLong)
	wantExpr(t, op(api.OpAdd, e, e), "", api.ErrLong)
	wantExpr(t, op(api.OpAdd, op(api.OpAdd, e, e), name("for")), "", api.ErrArg)
	wantExpr(t, op(api.OpAdd, e, nots(64, name("x"))), "", api.ErrArg)
	// A statement's expression may be told where the expression alone is too long for a text: in lines.
	if l := gone(pretty.Lines(set("x", nots(6, e)))); len(l) != 1 || len(l[0]) != 65537+5 {
		t.Error("a long line:", len(l))
	}
	wantTooLong(t, program(set("x", nots(5, e))))
}
