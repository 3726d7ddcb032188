package fold_test

import (
	"fmt"
	"slices"
	"strings"
	"testing"

	"muffle/api"
	"muffle/fold"
	"muffle/scope"
)

// numbersOfEdges are words at which operations turn.
func numbersOfEdges() []uint64 {
	return []uint64{0, 1, 2, 62, 63, 64, 65, 127, 128, 1 << 31, 1 << 32, 1<<63 - 1, 1 << 63, 1<<63 + 1, 1<<64 - 64, 1<<64 - 2, 1<<64 - 1}
}

// argsOf is how many arguments an operation that can be reckoned of numbers has.
func argsOf(o api.Op) int {
	switch {
	case o == api.OpNot || o == api.OpNeg:
		return 1
	case o == api.OpPick:
		return 3
	}
	return 2
}

// reckoned is what an operation comes to, as the document's list of them says.
func reckoned(o api.Op, l ...uint64) uint64 {
	one := map[bool]uint64{true: 1}
	switch a := l[0]; o {
	case api.OpNot:
		return 1<<64 - 1 - a
	case api.OpNeg:
		return 1<<64 - 1 - a + 1
	case api.OpPick:
		return l[1+one[a == 0]]
	}
	a, b := l[0], l[1]
	n := b % 64
	switch o {
	case api.OpAdd:
		return a + b
	case api.OpSub:
		return a - b
	case api.OpMul:
		return a * b
	case api.OpAnd:
		return a & b
	case api.OpOr:
		return a | b
	case api.OpXor:
		return a&^b | b&^a
	case api.OpShl:
		return a << n
	case api.OpShr:
		return a >> n
	case api.OpSar:
		return uint64(int64(a) >> n)
	case api.OpRol:
		return a<<n | a>>(64-n)
	case api.OpRor:
		return a>>n | a<<(64-n)
	case api.OpEq:
		return one[a == b]
	case api.OpNe:
		return one[a != b]
	case api.OpLt:
		return one[a < b]
	case api.OpLe:
		return one[a <= b]
	}
	panic("no operation")
}

// P12.2: what is known, and what is not.
func TestNames(t *testing.T) {
	k := known{"a": 5, "b": 0, "c": 1<<64 - 1, "s": 1}
	for _, c := range [][2]string{
		{"a", "5"}, {"b", "0"}, {"c", "18446744073709551615"}, {"s", "1"}, {"d", "d"}, {"aa", "aa"},
		{"7", "7"}, {"0", "0"}, {"18446744073709551615", "18446744073709551615"},
		{"(a + d)", "(5 + d)"}, {"(d - b)", "(d - 0)"}, {"(d + d)", "(d + d)"}, {"(a + a)", "10"}, {"~~d", "~~d"}, {"-~a", "6"}, {"(c + (b + d))", "(18446744073709551615 + (0 + d))"},
		{"((a + 1) * (d + (a * a)))", "(6 * (d + 25))"},
		// Nothing is put in another order, and what comes to a number only by itself is not seen.
		{"(d ^ d)", "(d ^ d)"}, {"(d * b)", "(d * 0)"}, {"((d + a) + a)", "((d + 5) + 5)"}, {"(d & 0)", "(d & 0)"}, {"(a + (d + a))", "(5 + (d + 5))"}, {"(d == d)", "(d == d)"},
		// An array is none, be its name known.
		{"s[a]", "s[5]"}, {"s[s]", "s[1]"}, {"s[(a - s)]", "s[4]"}, {"s[s[b]]", "s[s[0]]"}, {"(s + s[d])", "(1 + s[d])"}, {"s[7]", "s[7]"}, {"~s[(a + c)]", "~s[4]"},
		{"((a + d) * s[(a - 1)])", "((5 + d) * s[4])"},
	} {
		wantFolded(t, c[0], k, c[1])
	}
	for _, k := range []known{nil, {}, {"z": 1}, {"": 9}} {
		wantFolded(t, "a", k, "a")
		wantFolded(t, "(a + s[(1 + 2)])", k, "(a + s[3])")
	}
	wantExpr(t, "a name that is empty", name(""), known{"": 9}, word(9))
}

// P12.2, P12.1: each operation of numbers alone, by Expr and by Program, whether they stand there or are known.
func TestNumbersAlone(t *testing.T) {
	for o := api.OpNot; o <= api.OpPick; o++ {
		var l, want stmts
		for i, a := range numbersOfEdges() {
			for k, b := range numbersOfEdges() {
				all := []uint64{a, b, numbersOfEdges()[(i+k)%9]}[:argsOf(o)]
				e, of := op(o), op(o)
				now := known{}
				for at, n := range all {
					e.Args = append(e.Args, word(n))
					s := fmt.Sprint("n", at)
					now[s] = n
					of.Args = append(of.Args, name(s))
				}
				n := word(reckoned(o, all...))
				what := fmt.Sprint(o, all)
				wantExpr(t, what, e, nil, n)
				wantExpr(t, what+", known", of, now, n)
				l, want = append(l, set("x0", e)), append(want, set("x0", n))
			}
		}
		wantOf(t, fmt.Sprint("operation ", o), alone(1, l...), alone(1, want...), strings.TrimSpace(strings.Repeat("= ", len(l))))
	}
}

// P12.2: each operation of numbers and others: none of it is reckoned, but its parts are.
func TestNumbersAndOthers(t *testing.T) {
	others := map[string][2]api.Expr{
		"a word":        {name("p"), name("p")},
		"an array":      {index("s", name("a")), index("s", word(6))},
		"an operation":  {op(api.OpAdd, name("a"), name("p")), op(api.OpAdd, word(6), name("p"))},
		"what is none":  {op(0, name("a")), op(0, word(6))},
		"one too few":   {op(api.OpAdd, name("a")), op(api.OpAdd, word(6))},
		"a pick's rest": {op(api.OpPick, name("b"), index("s", name("a")), name("a")), op(api.OpPick, word(0), index("s", word(6)), word(6))},
	}
	k := known{"a": 6, "b": 0}
	for what, other := range others {
		for o := api.OpNot; o <= api.OpLe; o++ {
			for mask := range 1 << argsOf(o) {
				e, want := op(o), op(o)
				for i := range argsOf(o) {
					if mask>>i&1 > 0 {
						e.Args, want.Args = append(e.Args, other[0]), append(want.Args, other[1])
					} else {
						e.Args, want.Args = append(e.Args, op(api.OpNeg, name("b"))), append(want.Args, word(0))
					}
				}
				if mask == 0 {
					want = word(reckoned(o, 0, 0, 0))
				}
				wantExpr(t, fmt.Sprint(what, ", ", o, ", ", mask), e, k, want)
			}
		}
	}
}

// P12.2: OpPick: by what its first Arg is, and by what the one that is left out has.
func TestPick(t *testing.T) {
	k := known{"a": 3, "b": 0}
	for _, c := range [][2]string{
		// Numbers alone, or none at the beginning.
		{"pick(1, 2, 3)", "2"}, {"pick(0, 2, 3)", "3"}, {"pick(a, b, 3)", "0"}, {"pick(b, a, (a + 1))", "4"}, {"pick(18446744073709551615, 2, 3)", "2"},
		{"pick(p, 2, 3)", "pick(p, 2, 3)"}, {"pick(p, a, q)", "pick(p, 3, q)"}, {"pick(p, 1, 1)", "pick(p, 1, 1)"}, {"pick((p + a), q, b)", "pick((p + 3), q, 0)"}, {"pick(p, q, q)", "pick(p, q, q)"}, {"pick(s[0], 1, 2)", "pick(s[0], 1, 2)"},
		// A number at the beginning, nothing that may fail.
		{"pick(0, p, q)", "q"}, {"pick(1, p, q)", "p"}, {"pick(2, p, q)", "p"}, {"pick(18446744073709551615, p, q)", "p"}, {"pick(a, p, q)", "p"}, {"pick(b, p, q)", "q"}, {"pick((a - a), p, q)", "q"}, {"pick((a - b), p, q)", "p"},
		{"pick(1, p, 7)", "p"}, {"pick(0, p, 7)", "7"}, {"pick(1, 7, p)", "7"}, {"pick(0, 7, p)", "p"}, {"pick(1, (p + a), q)", "(p + 3)"}, {"pick(0, q, ~(p + (a * a)))", "~(p + 9)"},
		// The one that is left out may fail: then it is not; else it is, whatever the other one has.
		{"pick(1, p, s[0])", "pick(1, p, s[0])"}, {"pick(0, p, s[0])", "s[0]"}, {"pick(1, s[0], p)", "s[0]"}, {"pick(0, s[0], p)", "pick(0, s[0], p)"}, {"pick(1, s[0], s[1])", "pick(1, s[0], s[1])"}, {"pick(0, s[0], s[1])", "pick(0, s[0], s[1])"},
		{"pick(a, 1, s[a])", "pick(3, 1, s[3])"}, {"pick(b, s[b], a)", "pick(0, s[0], 3)"}, {"pick(a, s[(a + 1)], b)", "s[4]"}, {"pick(b, a, s[(p + a)])", "s[(p + 3)]"}, {"pick(1, p, (q + ~(2 * s[0])))", "pick(1, p, (q + ~(2 * s[0])))"}, {"pick(0, (q + ~(2 * s[0])), p)", "pick(0, (q + ~(2 * s[0])), p)"},
		{"pick(p, s[a], q)", "pick(p, s[3], q)"}, {"pick(s[a], s[b], a)", "pick(s[3], s[0], 3)"},
		// Within each other: what is folded of an Arg counts.
		{"pick(pick(1, 0, p), q, r)", "r"}, {"pick(pick(0, 0, a), q, r)", "q"}, {"pick(pick(p, 0, 0), q, r)", "pick(pick(p, 0, 0), q, r)"}, {"pick(1, pick(0, p, q), r)", "q"}, {"pick(0, p, pick(1, p, s[0]))", "pick(1, p, s[0])"},
		{"pick(1, p, pick(0, q, 5))", "p"}, {"pick(1, p, pick(1, q, s[0]))", "pick(1, p, pick(1, q, s[0]))"}, {"pick(1, p, pick(1, s[0], q))", "pick(1, p, s[0])"}, {"pick(1, pick(1, 2, s[0]), 3)", "pick(1, 2, s[0])"}, {"(pick(1, 2, p) + 3)", "5"}, {"(pick(1, 2, s[0]) + 3)", "(pick(1, 2, s[0]) + 3)"},
		{"s[pick(a, b, p)]", "s[0]"}, {"pick(s[0], pick(0, p, 2), pick(1, a, p))", "pick(s[0], 2, 3)"},
		{"pick(pick(1, 1, s[0]), p, q)", "pick(pick(1, 1, s[0]), p, q)"},
	} {
		wantFolded(t, c[0], k, c[1])
	}
}

// P12.2, P0.8: expressions that may be in no program.
func TestAnyExpr(t *testing.T) {
	x, five := name("x"), word(5)
	k := known{"x": 5}
	for what, c := range map[string]struct{ e, want api.Expr }{
		"zero":                                {api.Expr{}, api.Expr{}},
		"none, with Args":                     {op(0, x, five), op(0, five, five)},
		"none, below":                         {api.Expr{Op: -1, Word: 3, Name: "x", Args: exprs{x}}, api.Expr{Op: -1, Word: 3, Name: "x", Args: exprs{five}}},
		"none, above":                         {op(22, x, x, x), op(22, five, five, five)},
		"none, far above":                     {op(1<<62, x), op(1<<62, five)},
		"OpConst with Args":                   {api.Expr{Op: api.OpConst, Word: 2, Args: exprs{x, index("s", x)}}, api.Expr{Op: api.OpConst, Word: 2, Args: exprs{five, index("s", five)}}},
		"OpConst with a Name":                 {api.Expr{Op: api.OpConst, Word: 2, Name: "x"}, api.Expr{Op: api.OpConst, Word: 2, Name: "x"}},
		"OpVar with Args":                     {api.Expr{Op: api.OpVar, Name: "x", Args: exprs{x, index("s", x)}}, five},
		"OpVar with a Word":                   {api.Expr{Op: api.OpVar, Name: "x", Word: 9}, five},
		"OpVar that is not known, with Args":  {api.Expr{Op: api.OpVar, Name: "y", Word: 9, Args: exprs{x, name("y")}}, api.Expr{Op: api.OpVar, Name: "y", Word: 9, Args: exprs{five, name("y")}}},
		"OpIndex without Args":                {op(api.OpIndex), op(api.OpIndex)},
		"OpIndex with two":                    {api.Expr{Op: api.OpIndex, Name: "x", Args: exprs{x, x}}, api.Expr{Op: api.OpIndex, Name: "x", Args: exprs{five, five}}},
		"an operation with a Name":            {api.Expr{Op: api.OpNot, Name: "x", Word: 7, Args: exprs{x}}, word(1<<64 - 6)},
		"an operation with a Name, stays":     {api.Expr{Op: api.OpNot, Name: "x", Word: 7, Args: exprs{name("y")}}, api.Expr{Op: api.OpNot, Name: "x", Word: 7, Args: exprs{name("y")}}},
		"of OpConst with Args":                {op(api.OpAdd, x, api.Expr{Op: api.OpConst, Word: 2, Args: exprs{x}}), word(7)},
		"of OpVar with Args":                  {op(api.OpNeg, api.Expr{Op: api.OpVar, Name: "x", Args: exprs{name("y")}}), word(1<<64 - 5)},
		"a pick that leaves such an OpVar":    {op(api.OpPick, x, name("y"), api.Expr{Op: api.OpVar, Name: "x", Args: exprs{index("s", x)}}), name("y")},
		"a pick that would leave an OpIndex":  {op(api.OpPick, x, name("y"), api.Expr{Op: 77, Args: exprs{op(api.OpIndex)}}), op(api.OpPick, five, name("y"), api.Expr{Op: 77, Args: exprs{op(api.OpIndex)}})},
		"a pick that leaves what is none":     {op(api.OpPick, word(0), api.Expr{Op: -9, Args: exprs{x}}, name("y")), name("y")},
		"a pick of what is none":              {op(api.OpPick, word(1), api.Expr{Op: -9, Args: exprs{x}}, name("y")), op(-9, five)},
		"a pick whose first Arg is none":      {op(api.OpPick, api.Expr{}, x, x), op(api.OpPick, api.Expr{}, five, five)},
		"a pick of a number with an OpIndex":  {op(api.OpPick, word(1), name("y"), api.Expr{Op: api.OpConst, Args: exprs{index("s", x)}}), op(api.OpPick, word(1), name("y"), api.Expr{Op: api.OpConst, Args: exprs{index("s", five)}})},
		"a pick of numbers, all with OpIndex": {op(api.OpPick, word(1), word(2), api.Expr{Op: api.OpConst, Args: exprs{index("s", x)}}), word(2)},
	} {
		wantExpr(t, what, c.e, k, c.want)
	}
	// Each operation with too few Args, and too many.
	for o := api.OpNot; o <= api.OpPick; o++ {
		for n := range 6 {
			if n != argsOf(o) {
				wantExpr(t, fmt.Sprint(o, " with ", n), op(o, slices.Repeat(exprs{x}, n)...), k, op(o, slices.Repeat(exprs{five}, n)...))
				wantExpr(t, fmt.Sprint(o, " with ", n, ", within"), op(api.OpNot, op(o, slices.Repeat(exprs{x}, n)...)), k, op(api.OpNot, op(o, slices.Repeat(exprs{five}, n)...)))
			}
		}
	}
}

// P12.2: Safe.
func TestSafe(t *testing.T) {
	for _, c := range []struct {
		e    string
		safe bool
	}{
		{"1", true}, {"x", true}, {"s", true}, {"~x", true}, {"(x + y)", true}, {"pick(x, y, (1 << z))", true}, {"((((x + 1) + 1) + 1) + 1)", true},
		{"s[0]", false}, {"s[x]", false}, {"~s[0]", false}, {"(s[0] + x)", false}, {"(x + s[0])", false}, {"pick(s[0], x, y)", false}, {"pick(x, s[0], y)", false}, {"pick(x, y, s[0])", false},
		{"((((x + 1) + 1) + ~~-s[1]) + 1)", false}, {"s[s[s[0]]]", false},
	} {
		if got := fold.Safe(expr(t, c.e)); got != c.safe {
			t.Error(c.e, got)
		}
	}
	for o := api.Op(-1); o < 24; o++ {
		for n := range 5 {
			all := slices.Repeat(exprs{name("x")}, n)
			if got := fold.Safe(op(o, all...)); got != (o != api.OpIndex) {
				t.Error(o, n, got)
			}
			for i := range n {
				l := slices.Clone(all)
				l[i] = op(api.OpIndex)
				if fold.Safe(op(o, l...)) || fold.Safe(op(api.OpNot, op(o, l...))) {
					t.Error(o, n, i)
				}
			}
		}
	}
	if !fold.Safe(api.Expr{}) || !fold.Safe(api.Expr{Op: api.OpVar, Name: "s", Args: exprs{{}}}) {
		t.Error("what is zero")
	}
}

// P12.2: what is folded is as safe as it was, and stays as it is if it is folded again.
func TestFoldedAgain(t *testing.T) {
	k := known{"a": 3, "b": 0}
	for _, text := range []string{"a", "pick(a, s[b], p)", "pick(b, s[a], pick(1, s[2], p))", "(s[(a + 1)] * pick(b, a, q))", "pick(a, p, pick(b, s[0], 4))", "pick(p, (a - 2), s[s[b]])"} {
		e := expr(t, text)
		got := fold.Expr(e, k)
		if fold.Safe(got) != fold.Safe(e) {
			t.Error(text, got)
		}
		wantExpr(t, text+", again", got, k, got)
		wantExpr(t, text+", again, of nothing that is known", got, nil, got)
	}
}

// P12.2, P0.8: what nests as deep as there may be anything.
func TestDeepestExprs(t *testing.T) {
	const deep = 1 << 16
	numbers, others, places, kept, want, left, picks, chosen := name("a"), name("p"), index("s", name("a")), index("s", name("a")), index("s", word(3)), name("p"), name("p"), name("a")
	for range deep {
		numbers, others, places = op(api.OpNot, numbers), op(api.OpNot, others), index("s", places)
		// What is kept of the first is nothing less; of the second each time the other Arg.
		kept, want = op(api.OpPick, name("a"), name("q"), kept), op(api.OpPick, word(3), name("q"), want)
		left = op(api.OpPick, name("a"), name("q"), left)
		picks = op(api.OpPick, name("q"), picks, name("a"))
		chosen = op(api.OpPick, word(0), name("q"), chosen)
	}
	k := known{"a": 3}
	wantExpr(t, "numbers", numbers, k, word(3))
	wantExpr(t, "others", others, k, others)
	wantExpr(t, "picks that stay", kept, k, want)
	wantExpr(t, "picks that are left out", left, k, name("q"))
	wantExpr(t, "picks that are chosen", chosen, k, word(3))
	if got := fold.Expr(picks, k); !fold.Safe(got) || !fold.Safe(others) || fold.Safe(places) || fold.Safe(kept) {
		t.Error("Safe of the deepest")
	}
	for e, got := places, fold.Expr(places, k); ; e, got = e.Args[0], got.Args[0] {
		if len(e.Args) == 0 {
			if !sameExpr(got, word(3)) {
				t.Error(got)
			}
			break
		}
		if got.Op != api.OpIndex || got.Name != "s" {
			t.Fatal(got)
		}
	}
}

// P12.2: what lies behind the ends of the lists that are handed in stays.
func TestExprBehindTheEnds(t *testing.T) {
	all := exprs{name("x"), name("x"), name("x")}
	e := api.Expr{Op: api.OpNot, Args: all[:1]}
	got := fold.Expr(api.Expr{Op: api.OpAdd, Args: exprs{e, name("y")}}, known{"x": 4})
	if !sameExpr(got, op(api.OpAdd, word(1<<64-5), name("y"))) || !sameExpr(op(0, all...), op(0, name("x"), name("x"), name("x"))) {
		t.Error(got, all)
	}
	stays := fold.Expr(api.Expr{Op: api.OpAdd, Args: all[:2]}, nil)
	stays.Args = append(stays.Args, word(7))
	stays.Args[0] = word(8)
	if !sameExpr(op(0, all...), op(0, name("x"), name("x"), name("x"))) {
		t.Error(all)
	}
}

// P12.2: Sets.
func TestSets(t *testing.T) {
	for _, c := range []struct{ text, want string }{
		{"", ""},
		{"z = 1;", "z"},
		{"z = a; y = b; x = c;", "x y z"},
		{"z = 1; z = 2; z = 3;", "z"},
		{"s[a] = b;", ""},
		{"if a { }", ""},
		{"if a { x = 1; }", "x"},
		{"if a { } else { y = 1; }", "y"},
		{"if a { y = 1; x = 2; } else { y = 3; w = 4; }", "w x y"},
		{"while a { }", ""},
		{"while a { c = 1; b = c; }", "b c"},
		{"for i 0 0 { }", "i"},
		{"for i 0 9 { for j 0 9 { for i 0 9 { } } }", "i j"},
		{"for i 0 0 { h = 1; s[1] = g; }", "h i"},
		{"f(a, b);", ""},
		{"x = f(a);", "x"},
		{"y, x, z = f();", "x y z"},
		{"x, x = f(y, z);", "x"},
		{"z = 1; s[0] = 2; if a { b, c = f(1); } else { while b { a = 1; } } for i 0 2 { a = 2; }", "a b c i z"},
		{"while a { if b { while c { if d { } else { for e 0 1 { g, e = f(h); } } } } }", "e g"},
		{"b10 = 1; b9 = 1; b_ = 1; ba = 1; b = 1; a = 1; bb = 1; b1 = 1;", "a b b1 b10 b9 b_ ba bb"},
	} {
		wantSets(t, c.text, list(t, c.text), strings.Fields(c.want)...)
	}
	wantSets(t, "nothing", nil)
	if l := fold.Sets(); len(l) > 0 {
		t.Error(l)
	}
}

// P12.2, P0.8: Sets of statements that may be in no program.
func TestAnySets(t *testing.T) {
	x := set("x", word(1))
	for what, c := range map[string]struct {
		s    api.Stmt
		want []string
	}{
		"zero":                       {api.Stmt{}, nil},
		"a kind that is none":        {api.Stmt{Kind: 9, Name: "a", Names: []string{"b"}}, nil},
		"a kind below":               {api.Stmt{Kind: -1, Name: "a", Names: []string{"b"}}, nil},
		"StSet with Names":           {api.Stmt{Kind: api.StSet, Name: "a", Names: []string{"b"}}, []string{"a"}},
		"StPut with Names":           {api.Stmt{Kind: api.StPut, Name: "a", Names: []string{"b"}}, nil},
		"StIf with a Name":           {api.Stmt{Kind: api.StIf, Name: "a", Names: []string{"b"}, Body: stmts{x}}, []string{"x"}},
		"StWhile with a Name":        {api.Stmt{Kind: api.StWhile, Name: "a", Names: []string{"b"}, Else: stmts{x}}, []string{"x"}},
		"StFor with Names":           {api.Stmt{Kind: api.StFor, Name: "a", Names: []string{"b"}, Low: 7, High: 3}, []string{"a"}},
		"StCall's Name is no word":   {api.Stmt{Kind: api.StCall, Name: "a", Names: []string{"b", "b", "a1"}}, []string{"a1", "b"}},
		"a name that is none":        {set("a name!", word(1)), []string{"a name!"}},
		"expressions set nothing":    {api.Stmt{Kind: api.StPut, Name: "a", A: name("b"), E: name("c"), Args: exprs{name("d")}}, nil},
		"within a kind that is none": {api.Stmt{Kind: 9, Body: stmts{x}, Else: stmts{set("y", word(1))}}, []string{"x", "y"}},
	} {
		wantSets(t, what, stmts{c.s}, c.want...)
	}
	const deep = 1 << 16
	for what, within := range map[string]func(s api.Stmt) api.Stmt{
		"Body":  func(s api.Stmt) api.Stmt { return when(word(1), s) },
		"Else":  func(s api.Stmt) api.Stmt { return unless(word(1), set("b", word(1)), s) },
		"loops": func(s api.Stmt) api.Stmt { return while(word(1), s) },
		"fors":  func(s api.Stmt) api.Stmt { return rounds("b", 0, 1, s) },
	} {
		s := set("a", word(1))
		for range deep {
			s = within(s)
		}
		want := []string{"a", "b"}
		if what == "Body" || what == "loops" {
			want = want[:1]
		}
		wantSets(t, what, stmts{s}, want...)
	}
	var l stmts
	var want []string
	for i := range 20000 {
		s := fmt.Sprint("n", (i*7919)%20000)
		l, want = append(l, set(s, word(1))), append(want, s)
	}
	slices.Sort(want)
	wantSets(t, "many names", l, want...)
}

// P12.2: each of Sets' lists is new.
func TestSetsAnew(t *testing.T) {
	l := stmts{call("f", []string{"b", "a"}), set("c", word(1))}
	was := scope.Clone(inStmts(l...))
	got := fold.Sets(l...)
	got[0], got[1], got[2] = "z", "z", "z"
	if again := fold.Sets(l...); !slices.Equal(again, []string{"a", "b", "c"}) || !scope.Same(inStmts(l...), was) {
		t.Error(again, l)
	}
}
