package parse_test

import (
	"math/rand"
	"reflect"
	"strings"
	"testing"

	"muffle/api"
	"muffle/parse"
	"muffle/pretty"
)

// P6.1: the chapter's examples.
func TestExamples(t *testing.T) {
	wantExpr(t, "(x + 1)", op(api.OpAdd, name("x"), word(1)))
	wantExprFault(t, "x + 1", syntax(1, 3))
	wantExprFault(t, "f(1)", syntax(1, 2))
	wantStmts(t, "a, b = f(1, x);", call([]string{"a", "b"}, "f", word(1), name("x")))
	wantStmts(t, "r[0] = ~a;", put("r", word(0), op(api.OpNot, name("a"))))
	wantStmts(t, "if x { }", when(name("x"), nil, nil))
	wantFault(t, "fn f() {", syntax(1, 9))
	wantProgram(t, "", api.Program{})
	wantExprFault(t, strings.Repeat("~", 65)+"x", nest(1, 65))
}

// P6.1: the examples of the document that are texts.
func TestExamplesOfTheWhole(t *testing.T) {
	x := vars{{Name: "x", Kind: api.VarReg}}
	wantProgram(t, "fn main(x) -> x { }", api.Program{Funcs: []api.Func{{Name: "main", Params: x, Rets: []string{"x"}}}})
	secret := vars{{Name: "x", Kind: api.VarReg, Secret: true}}
	y := vars{{Name: "y", Kind: api.VarReg}}
	wantProgram(t, "fn main(x secret) -> y { var y; y = (x + 1); }", api.Program{Funcs: []api.Func{{Name: "main", Params: secret, Vars: y, Rets: []string{"y"}, Body: stmts{set("y", op(api.OpAdd, name("x"), word(1)))}}}})
	wantStmts(t, "for i 0 4 { r[i] = key[i]; }", rounds("i", 0, 4, put("r", name("i"), index("key", name("i")))))
	wantExpr(t, "pick(x, 1, 2)", op(api.OpPick, name("x"), word(1), word(2)))
}

// P6.1: expressions of each kind.
func TestExprs(t *testing.T) {
	x, y := name("x"), name("y")
	for text, want := range map[string]api.Expr{
		"0": word(0), "18446744073709551615": word(1<<64 - 1), "2147483648": word(1 << 31), "9223372036854775808": word(1 << 63),
		"x": x, "forx": name("forx"), "abcdefghijklmnop": name("abcdefghijklmnop"), "pick_": name("pick_"), "x_1": name("x_1"),
		"r[0]": index("r", word(0)), "r[x]": index("r", x), "r[s[x]]": index("r", index("s", x)), "r[(x - 1)]": index("r", op(api.OpSub, x, word(1))),
		"~x": op(api.OpNot, x), "-x": op(api.OpNeg, x), "~-~7": op(api.OpNot, op(api.OpNeg, op(api.OpNot, word(7)))), "--5": op(api.OpNeg, op(api.OpNeg, word(5))), "-0": op(api.OpNeg, word(0)),
		"~r[x]": op(api.OpNot, index("r", x)), "-(x - -y)": op(api.OpNeg, op(api.OpSub, x, op(api.OpNeg, y))), "(-x--y)": op(api.OpSub, op(api.OpNeg, x), op(api.OpNeg, y)),
		"pick(1, 2, 3)": op(api.OpPick, word(1), word(2), word(3)), "pick(pick(x,y,x),r[x],~~y)": op(api.OpPick, op(api.OpPick, x, y, x), index("r", x), op(api.OpNot, op(api.OpNot, y))),
		"((x + y) * (y + x))": op(api.OpMul, op(api.OpAdd, x, y), op(api.OpAdd, y, x)), "(x<~y)": op(api.OpLt, x, op(api.OpNot, y)), "(x<-1)": op(api.OpLt, x, op(api.OpNeg, word(1))),
	} {
		wantExpr(t, text, want)
	}
	for i, sign := range signTexts() {
		o := api.OpAdd + api.Op(i)
		wantExpr(t, "(x "+sign+" y)", op(o, x, y))
		wantExpr(t, "(x"+sign+"y)", op(o, x, y))
		wantExpr(t, "((1 "+sign+" x) "+sign+" (y "+sign+" 2))", op(o, op(o, word(1), x), op(o, y, word(2))))
	}
}

// P6.1: statements of each kind.
func TestStmts(t *testing.T) {
	x, one := name("x"), word(1)
	f := call(nil, "f")
	for text, want := range map[string]stmts{
		"a = 1;":                           {set("a", one)},
		"a = f;":                           {set("a", name("f"))},
		"a = f[1];":                        {set("a", index("f", one))},
		"a = pick(x, 1, x);":               {set("a", op(api.OpPick, x, one, x))},
		"a = (x == 1);":                    {set("a", op(api.OpEq, x, one))},
		"a[1] = x;":                        {put("a", one, x)},
		"a[a[x]] = a[1];":                  {put("a", index("a", x), index("a", one))},
		"if x { }":                         {when(x, nil, nil)},
		"if x { } else { }":                {when(x, nil, nil)},
		"if x { f(); }":                    {when(x, stmts{f}, nil)},
		"if x { } else { f(); }":           {when(x, nil, stmts{f})},
		"if x { f(); } else { f(); f(); }": {when(x, stmts{f}, stmts{f, f})},
		"if x { if 1 { } else { f(); } }":  {when(x, stmts{when(one, nil, stmts{f})}, nil)},
		"if x { if 1 { } } else { f(); }":  {when(x, stmts{when(one, nil, nil)}, stmts{f})},
		"if r[x] { }":                      {when(index("r", x), nil, nil)},
		"while x { }":                      {while(x)},
		"while (x != 1) { f(); a = 1; }":   {while(op(api.OpNe, x, one), f, set("a", one))},
		"for i 0 4 { }":                    {rounds("i", 0, 4)},
		"for i 7 3 { f(); }":               {rounds("i", 7, 3, f)},
		"for i 18446744073709551615 18446744073709551614 { }": {rounds("i", 1<<64-1, 1<<64-2)},
		"f();":                  {f},
		"f(1);":                 {call(nil, "f", one)},
		"f(x, 1, ~x, f[1]);":    {call(nil, "f", x, one, op(api.OpNot, x), index("f", one))},
		"a = f();":              {call([]string{"a"}, "f")},
		"a = f(1);":             {call([]string{"a"}, "f", one)},
		"a, b = f();":           {call([]string{"a", "b"}, "f")},
		"a, a, b, a = a(x, 1);": {call([]string{"a", "a", "b", "a"}, "a", x, one)},
		"a = 1; b = x; f();":    {set("a", one), set("b", x), f},
		"f();a[1]=x;while x{}":  {f, put("a", one, x), while(x)},
	} {
		wantStmts(t, text, want...)
		wantProgram(t, "fn g() { "+text+" }", api.Program{Funcs: []api.Func{{Name: "g", Body: want}}})
		wantStmts(t, "while x { "+text+" }", while(x, want...))
		wantStmts(t, "if x { } else { "+text+" }", when(x, nil, want))
	}
}

// P6.1: regions, with Addr ahead of Size.
func TestRegions(t *testing.T) {
	for text, want := range map[string]api.Region{
		"region a 0 0;":                            {Name: "a"},
		"region key 8 4 secret;":                   {Name: "key", Addr: 8, Size: 4, Secret: true},
		"region a 2147483647 1;":                   {Name: "a", Addr: 2147483647, Size: 1},
		"region a 1 2147483647 secret;":            {Name: "a", Addr: 1, Size: 2147483647, Secret: true},
		"region regions 7 70000;":                  {Name: "regions", Addr: 7, Size: 70000},
		"region a # one\n\t1 # two\n2\r\nsecret ;": {Name: "a", Addr: 1, Size: 2, Secret: true},
	} {
		wantProgram(t, text, api.Program{Regions: []api.Region{want}})
		wantProgram(t, text+text+"fn f() {}", api.Program{Regions: []api.Region{want, want}, Funcs: []api.Func{{Name: "f"}}})
	}
	// How many there are is layer 7's.
	p, f := parse.Parse(strings.Repeat("region a 0 1;", 100) + strings.Repeat("fn f(){}", 100))
	if f != fine || len(p.Regions) != 100 || len(p.Funcs) != 100 {
		t.Error(f, len(p.Regions), len(p.Funcs))
	}
}

// P6.1: functions: parameters, answers, variables.
func TestFuncs(t *testing.T) {
	reg := func(s string) api.Var { return api.Var{Name: s, Kind: api.VarReg} }
	secret := api.Var{Name: "s", Kind: api.VarReg, Secret: true}
	for text, want := range map[string]api.Func{
		"fn f() {}":                      {Name: "f"},
		"fn f(x) {}":                     {Name: "f", Params: vars{reg("x")}},
		"fn f(s secret) {}":              {Name: "f", Params: vars{secret}},
		"fn f(x, s secret, y) {}":        {Name: "f", Params: vars{reg("x"), secret, reg("y")}},
		"fn f(s secret, s secret) {}":    {Name: "f", Params: vars{secret, secret}},
		"fn f() -> a {}":                 {Name: "f", Rets: []string{"a"}},
		"fn f(x)->a,b,a{}":               {Name: "f", Params: vars{reg("x")}, Rets: []string{"a", "b", "a"}},
		"fn f() { var x; }":              {Name: "f", Vars: vars{reg("x")}},
		"fn f() { array r 4; }":          {Name: "f", Vars: vars{{Name: "r", Kind: api.VarArray, Size: 4}}},
		"fn f() { array r 0 secret; }":   {Name: "f", Vars: vars{{Name: "r", Kind: api.VarArray, Secret: true}}},
		"fn f() { stack r 2147483647; }": {Name: "f", Vars: vars{{Name: "r", Kind: api.VarStack, Size: 2147483647}}},
		"fn f() { stack r 512 secret; }": {Name: "f", Vars: vars{{Name: "r", Kind: api.VarStack, Size: 512, Secret: true}}},
		"fn f() { array r 2147483647; }": {Name: "f", Vars: vars{{Name: "r", Kind: api.VarArray, Size: 2147483647}}},
		"fn f() { var b; stack a 1; var a; array b 2 secret; b = 1; }": {
			Name: "f", Body: stmts{set("b", word(1))},
			Vars: vars{reg("b"), {Name: "a", Kind: api.VarStack, Size: 1}, reg("a"), {Name: "b", Kind: api.VarArray, Size: 2, Secret: true}},
		},
	} {
		wantProgram(t, text, api.Program{Funcs: []api.Func{want}})
		wantProgram(t, "region a 0 1; "+text+"\n"+text, api.Program{Regions: []api.Region{{Name: "a", Size: 1}}, Funcs: []api.Func{want, want}})
	}
}

// P6.1: what stands between tokens says nothing.
func TestBetween(t *testing.T) {
	text := "region key 8 4 secret; fn f(x secret, y) -> a, b { var a; stack s 2; a, b = f(x, ~y); if (a <= -b) { s[0] = a; } else { while pick(a, b, 1) { for i 0 2 { f(); } } } }"
	want, f := parse.Parse(text)
	if f != fine || len(want.Regions) != 1 || len(want.Funcs) != 1 || len(want.Funcs[0].Body) != 2 {
		t.Fatal(f, want)
	}
	l := tokensOf(t, text)
	for _, between := range []string{" ", "\t", "\n", "\r", "\r\n", " \t\r\n ", "\n\n\n", "#\n", "# a note\n", "\t# } ; fn $ \x00 \xff\n\t", "#a\n#b\n"} {
		var b strings.Builder
		for _, x := range l {
			b.WriteString(between + x.Text)
		}
		wantProgram(t, b.String(), want)
		wantProgram(t, b.String()+between, want)
		wantProgram(t, b.String()+"# the end", want)
	}
	r := rand.New(rand.NewSource(61))
	for range 200 {
		wantProgram(t, laid(r, l), want)
	}
}

// P6.1: texts without a token.
func TestNothing(t *testing.T) {
	for text, end := range map[string]api.Fault{
		"": syntax(1, 1), " ": syntax(1, 2), "\n": syntax(2, 1), "\t\r": syntax(1, 3), "# a note": syntax(1, 9), "# a note\n": syntax(2, 1), "#": syntax(1, 2), "\n # a\n\n#b": syntax(4, 3), "#\xff\n ": syntax(2, 2),
	} {
		wantProgram(t, text, api.Program{})
		wantStmts(t, text)
		wantExprFault(t, text, end)
		if nice, f := parse.Nice(text); nice != "" || f != fine {
			t.Errorf("Nice(%q): %q, %v", text, nice, f)
		}
	}
}

// P6.1: texts that are as long as may be, and one byte longer.
func TestLongTexts(t *testing.T) {
	const most = 65536
	blanks := func(ahead, behind string) string {
		return ahead + strings.Repeat(" ", most-len(ahead)-len(behind)) + behind
	}
	wantProgram(t, blanks("fn f() {", "}"), api.Program{Funcs: []api.Func{{Name: "f"}}})
	wantProgram(t, blanks("fn f() {", "}#"), api.Program{Funcs: []api.Func{{Name: "f"}}})
	wantFault(t, blanks("fn f() {", "}")+" ", tooLong())
	wantFault(t, blanks("fn f() {", ""), syntax(1, most+1))
	wantFault(t, blanks("fn f() {", ";"), syntax(1, most))
	wantExpr(t, blanks("x", ""), name("x"))
	wantExprFault(t, blanks("x", "")+" ", tooLong())
	wantExprFault(t, blanks("x", "y"), syntax(1, most))
	wantStmtsFault(t, blanks("f();", "")+"#", tooLong())
	if l, f := parse.Stmts(strings.Repeat("f();", most/4)); f != fine || len(l) != most/4 || !pretty.SameStmts(l[most/4-1:], stmts{call(nil, "f")}) {
		t.Error(f, len(l))
	}
	// A text that is too long is that first, whatever else is wrong with it.
	for _, text := range []string{strings.Repeat("$", most+1), strings.Repeat("~", most+1), strings.Repeat("a", 1<<20), ";" + blanks("", "")} {
		wantFault(t, text, tooLong())
		wantExprFault(t, text, tooLong())
		wantStmtsFault(t, text, tooLong())
	}
}

// P6.1: what is answered is the caller's: in new memory, of which no two lists have a part in common.
func TestAnswersMemory(t *testing.T) {
	p, f := parse.Parse(whole)
	want, _ := parse.Parse(whole)
	if f != fine || !pretty.Same(p, want) {
		t.Fatal(f)
	}
	writeBehind(reflect.ValueOf(p))
	if !pretty.Same(p, want) {
		t.Errorf("lists lie in one another's memory: %+v", p)
	}
	spoil(reflect.ValueOf(&p).Elem())
	if again, _ := parse.Parse(whole); pretty.Same(p, want) || !pretty.Same(again, want) {
		t.Error("what is answered is kept")
	}
}

// writeBehind fills what lists have room for behind their ends.
func writeBehind(v reflect.Value) {
	switch v.Kind() {
	case reflect.Slice:
		for i := range v.Len() {
			writeBehind(v.Index(i))
		}
		for n := v.Len(); n > 0 && n < v.Cap(); n++ {
			v.Slice(0, n+1).Index(n).Set(v.Index(0))
		}
	case reflect.Struct:
		for i := range v.NumField() {
			writeBehind(v.Field(i))
		}
	}
}

// spoil makes all names others.
func spoil(v reflect.Value) {
	switch v.Kind() {
	case reflect.Slice:
		for i := range v.Len() {
			spoil(v.Index(i))
		}
	case reflect.Struct:
		for i := range v.NumField() {
			spoil(v.Field(i))
		}
	case reflect.String:
		v.SetString("spoilt")
	}
}
