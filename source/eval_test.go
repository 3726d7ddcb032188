package source_test

import (
	"fmt"
	"maps"
	"slices"
	"testing"

	"muffle/api"
	"muffle/source"
)

type (
	words  = map[string]uint64
	arrays = map[string][]uint64
)

// operations are each operation of some words, and what it comes to.
func operations() []struct {
	op   api.Op
	args []uint64
	want uint64
} {
	const top = 1 << 63
	return []struct {
		op   api.Op
		args []uint64
		want uint64
	}{
		{api.OpNot, []uint64{0}, greatest}, {api.OpNot, []uint64{5}, greatest - 5},
		{api.OpNeg, []uint64{1}, greatest}, {api.OpNeg, []uint64{0}, 0}, {api.OpNeg, []uint64{top}, top},
		{api.OpAdd, []uint64{greatest, 3}, 2}, {api.OpAdd, []uint64{3, 4}, 7},
		{api.OpSub, []uint64{3, 4}, greatest}, {api.OpSub, []uint64{9, 4}, 5},
		{api.OpMul, []uint64{1 << 32, 1 << 32}, 0}, {api.OpMul, []uint64{3, 5}, 15}, {api.OpMul, []uint64{greatest, greatest}, 1},
		{api.OpAnd, []uint64{12, 10}, 8}, {api.OpOr, []uint64{12, 10}, 14}, {api.OpXor, []uint64{12, 10}, 6},
		{api.OpShl, []uint64{1, 63}, top}, {api.OpShl, []uint64{5, 64}, 5}, {api.OpShl, []uint64{3, 65}, 6}, {api.OpShl, []uint64{top, 1}, 0},
		{api.OpShr, []uint64{top, 63}, 1}, {api.OpShr, []uint64{8, 67}, 1}, {api.OpShr, []uint64{greatest, greatest}, 1},
		{api.OpSar, []uint64{top, 63}, greatest}, {api.OpSar, []uint64{8, 1}, 4}, {api.OpSar, []uint64{top, 64}, top},
		{api.OpRol, []uint64{top + 1, 1}, 3}, {api.OpRol, []uint64{7, 64}, 7}, {api.OpRol, []uint64{1, 65}, 2},
		{api.OpRor, []uint64{3, 1}, top + 1}, {api.OpRor, []uint64{7, 0}, 7}, {api.OpRor, []uint64{1, 127}, 2},
		{api.OpEq, []uint64{4, 4}, 1}, {api.OpEq, []uint64{4, 5}, 0}, {api.OpNe, []uint64{4, 4}, 0}, {api.OpNe, []uint64{4, 5}, 1},
		{api.OpLt, []uint64{1, greatest}, 1}, {api.OpLt, []uint64{greatest, 1}, 0}, {api.OpLt, []uint64{4, 4}, 0},
		{api.OpLe, []uint64{4, 4}, 1}, {api.OpLe, []uint64{greatest, 1}, 0}, {api.OpLe, []uint64{1, top}, 1},
		{api.OpPick, []uint64{0, 5, 6}, 6}, {api.OpPick, []uint64{9, 5, 6}, 5}, {api.OpPick, []uint64{top, 0, greatest}, 0},
	}
}

// P8.1, P8.2: each operation, in a run and reckoned by itself: of words, of numbers, and of arrays' words.
func TestOperations(t *testing.T) {
	seen := map[api.Op]int{}
	for _, c := range operations() {
		what := fmt.Sprint(c.op, " of ", c.args)
		seen[c.op]++
		padded := append(slices.Clone(c.args), 0, 0)
		p := program(t, "region k 0 3; fn f(a, b, c) -> y { var y; array r 3; stack s 3; r[0] = a; r[1] = b; r[2] = c; }")
		of := map[string]api.Expr{}
		for _, kind := range []string{"words", "numbers", "registers", "stack", "region"} {
			e := op(c.op)
			for i, x := range c.args {
				at := word(uint64(i))
				e.Args = append(e.Args, map[string]api.Expr{"words": name([]string{"a", "b", "c"}[i]), "numbers": word(x), "registers": index("r", at), "stack": index("s", at), "region": index("k", at)}[kind])
			}
			of[kind] = e
		}
		for kind, e := range of {
			var places []uint64
			if kind == "stack" || kind == "region" {
				places = []uint64{0, 1, 2}[:len(c.args)]
			}
			x, got, errno := source.Eval(p, 0, e, words{"a": padded[0], "b": padded[1], "c": padded[2]}, arrays{"r": padded[:3], "s": padded[:3], "k": padded[:3]})
			if x != c.want || !slices.Equal(got, places) || errno != api.OK {
				t.Errorf("%s, of %s: %d, %v, %v; not %d, %v", what, kind, x, got, errno, c.want, places)
			}
			if kind == "stack" {
				continue
			}
			p.Funcs[0].Body = append(p.Funcs[0].Body[:3:3], api.Stmt{Kind: api.StSet, Name: "y", E: e})
			r := ran(t, what, p, api.Input{Args: padded[:3], Regions: [][]uint64{padded[:3]}}, 4)
			if !slices.Equal(r.Out.Rets, []uint64{c.want}) || !slices.Equal(r.Leak[3].Items, places) {
				t.Errorf("%s, of %s: %s; not %d, %v", what, kind, tellRan(r), c.want, places)
			}
		}
	}
	for o := api.OpNot; o <= api.OpPick; o++ {
		if o != api.OpIndex && seen[o] == 0 {
			t.Error("not asked:", o)
		}
	}
}

// evalProgram has two functions whose names' kinds are unlike, and a region.
func evalProgram(t *testing.T) api.Program {
	t.Helper()
	return program(t, "region k 0 2; fn g(x, r) -> x { array y 2; stack i 4; x = y[1]; } fn f(x, p secret) -> y { var y; var i; array r 3; stack s 4 secret; for i 0 2 { y = g(x, p); } }")
}

func evalWords() words {
	return words{"x": 1, "p": 2, "y": 3, "i": greatest}
}

func evalArrays() arrays {
	return arrays{"r": {10, 0, 2}, "s": {3, 2, 1, 77}, "k": {100, 1}}
}

func wantEval(t *testing.T, what string, p api.Program, f int, e api.Expr, w words, a arrays, want uint64, places []uint64, errno api.Errno) {
	t.Helper()
	x, got, is := source.Eval(p, f, e, w, a)
	if x != want || !slices.Equal(got, places) || is != errno {
		t.Errorf("%s: %d, %v, %v; not %d, %v, %v", what, x, got, is, want, places, errno)
	}
}

// P8.2: the word, and the places that are leaked, in order.
func TestEval(t *testing.T) {
	p := evalProgram(t)
	for _, c := range []struct {
		text   string
		want   uint64
		places []uint64
	}{
		{"7", 7, nil},
		{"18446744073709551615", greatest, nil},
		{"x", 1, nil},
		{"p", 2, nil},
		{"i", greatest, nil},
		{"r[0]", 10, nil},
		{"r[2]", 2, nil},
		{"s[0]", 3, []uint64{0}},
		{"s[3]", 77, []uint64{3}},
		{"k[x]", 1, []uint64{1}},
		{"(x + (p * y))", 7, nil},
		{"s[s[0]]", 77, []uint64{0, 3}},
		{"s[r[p]]", 1, []uint64{2}},
		{"r[s[k[1]]]", 2, []uint64{1, 1}},
		{"(s[y] - (r[0] + k[0]))", greatest - 32, []uint64{3, 0}},
		{"pick(r[1], s[1], k[0])", 100, []uint64{1, 0}},
		{"pick(s[2], s[1], s[0])", 2, []uint64{2, 1, 0}},
		{"s[(i + 1)]", 3, []uint64{0}},
	} {
		w, a := evalWords(), evalArrays()
		wantEval(t, c.text, p, 1, expr(t, c.text), w, a, c.want, c.places, api.OK)
		if !maps.Equal(w, evalWords()) || !maps.EqualFunc(a, evalArrays(), slices.Equal[[]uint64]) {
			t.Errorf("%s: what was handed in is changed", c.text)
		}
	}
	// Of another function the same names are other things.
	wantEval(t, "of the first one", p, 0, expr(t, "((x + r) + (y[1] + i[3]))"), words{"x": 1, "r": 2}, arrays{"y": {0, 30}, "i": {0, 0, 0, 400}}, 433, []uint64{3}, api.OK)
	wantEval(t, "a region, of the first one", p, 0, expr(t, "k[r]"), words{"r": 1}, arrays{"k": {5, 6}}, 6, []uint64{1}, api.OK)
	// What is answered is new.
	_, first, _ := source.Eval(p, 1, expr(t, "s[s[0]]"), evalWords(), evalArrays())
	_, second, _ := source.Eval(p, 1, expr(t, "s[s[0]]"), evalWords(), evalArrays())
	first[0], first[1] = 9, 9
	if !slices.Equal(second, []uint64{0, 3}) {
		t.Error("answers are in one place:", second)
	}
}

// P8.2: what the expression has is asked for alone.
func TestEvalOfFew(t *testing.T) {
	p := evalProgram(t)
	wantEval(t, "a number", p, 1, word(7), nil, nil, 7, nil, api.OK)
	wantEval(t, "a number, of empty maps", p, 1, word(7), words{}, arrays{}, 7, nil, api.OK)
	wantEval(t, "a word alone", p, 1, name("x"), words{"x": 5}, nil, 5, nil, api.OK)
	wantEval(t, "a word that is 0", p, 1, name("x"), words{"x": 0}, nil, 0, nil, api.OK)
	wantEval(t, "an array alone", p, 1, index("s", word(1)), nil, arrays{"s": {1, 2, 3, 4}}, 2, []uint64{1}, api.OK)
	// Others may be handed in, whatever they are.
	w := words{"x": 5, "z": 1, "": 2, "s": 3, "k": 4, "g": 5, "for": 6}
	a := arrays{"s": {1, 2, 3, 4}, "r": {1}, "k": nil, "x": {8}, "z": {9}, "": {}, "g": make([]uint64, 600)}
	wantEval(t, "with others", p, 1, expr(t, "(x + s[1])"), w, a, 7, []uint64{1}, api.OK)
	wantEval(t, "with nil ones", p, 1, name("x"), words{"x": 5}, arrays{"s": nil, "r": nil}, 5, nil, api.OK)
}

// P8.2: ErrBounds, in whatever part; beside it there is nothing else.
func TestEvalBounds(t *testing.T) {
	p := evalProgram(t)
	for _, text := range []string{
		"r[3]", "s[4]", "k[2]", "s[18446744073709551615]", "r[i]", "k[i]", "s[k[0]]", "s[s[3]]", "(s[0] + s[4])", "(s[4] + s[0])", "~r[r[0]]", "pick(1, 2, s[4])", "pick(0, r[3], 2)", "pick(k[2], 1, 1)", "(0 * s[(0 - 1)])", "s[(s[0] + s[2])]",
	} {
		wantEval(t, text, p, 1, expr(t, text), evalWords(), evalArrays(), 0, nil, api.ErrBounds)
	}
	wantEval(t, "of the first one", p, 0, expr(t, "y[2]"), nil, arrays{"y": {1, 2}}, 0, nil, api.ErrBounds)
}

func wantNoEval(t *testing.T, what string, p api.Program, f int, e api.Expr, w words, a arrays) {
	t.Helper()
	wantEval(t, what, p, f, e, w, a, 0, nil, api.ErrArg)
}

// P8.2: ErrArg: a program that may not be; a function's number that is none.
func TestEvalOfNoProgram(t *testing.T) {
	p := evalProgram(t)
	for _, f := range []int{-1, 2, 3, -1 << 63, 1<<63 - 1} {
		wantNoEval(t, fmt.Sprint("the function ", f), p, f, word(7), nil, nil)
		wantNoEval(t, fmt.Sprint("the function ", f), p, f, name("x"), evalWords(), evalArrays())
	}
	wantNoEval(t, "a program without anything", api.Program{}, 0, word(7), nil, nil)
	for what, spoil := range spoils() {
		q := program(t, "region k 0 2; region m 64 3; fn g() { } fn f(x, y) -> x { x = k[y]; }")
		wantEval(t, "one that may be", q, 1, word(7), nil, nil, 7, nil, api.OK)
		spoil(&q)
		for f := range q.Funcs {
			wantNoEval(t, what, q, f, word(7), nil, nil)
		}
	}
}

// P8.2: ErrArg: an expression that may not be in the function; in whatever part, and ahead of ErrBounds.
func TestEvalOfNoExpr(t *testing.T) {
	p := evalProgram(t)
	x := name("x")
	for what, e := range map[string]api.Expr{
		"nothing":                       {},
		"an operation of 22":            op(22, x, x),
		"an operation below 0":          op(-1),
		"a number with a name":          {Op: api.OpConst, Name: "x"},
		"a number with an argument":     op(api.OpConst, x),
		"a word with an argument":       {Op: api.OpVar, Name: "x", Args: exprs{x}},
		"a word with a number":          {Op: api.OpVar, Name: "x", Word: 1},
		"no such word":                  name("z"),
		"a word without a name":         name(""),
		"a name that is none":           name("for"),
		"a function's name":             name("g"),
		"an array for a word":           name("r"),
		"an array on the stack for one": name("s"),
		"a region for a word":           name("k"),
		"no such array":                 index("z", x),
		"a word for an array":           index("x", x),
		"a place too few":               {Op: api.OpIndex, Name: "s"},
		"a place too many":              {Op: api.OpIndex, Name: "s", Args: exprs{x, x}},
		"an index with a number":        {Op: api.OpIndex, Name: "s", Word: 1, Args: exprs{x}},
		"one argument too few":          op(api.OpAdd, x),
		"one too many":                  op(api.OpNot, x, x),
		"none":                          op(api.OpPick),
		"two of a pick":                 op(api.OpPick, x, x),
		"an operation with a name":      {Op: api.OpNot, Name: "x", Args: exprs{x}},
		"an operation with a number":    {Op: api.OpNot, Word: 1, Args: exprs{x}},
	} {
		w, a := evalWords(), evalArrays()
		w["z"], w["r"], w["s"], w["k"], w["g"], w["for"], w[""] = 0, 0, 0, 0, 0, 0, 0
		a["z"], a["x"] = []uint64{1}, []uint64{1}
		wantNoEval(t, what, p, 1, e, w, a)
		wantNoEval(t, what+", in a place", p, 1, index("s", e), w, a)
		wantNoEval(t, what+", ahead", p, 1, op(api.OpAdd, e, x), w, a)
		wantNoEval(t, what+", behind", p, 1, op(api.OpAdd, x, e), w, a)
		wantNoEval(t, what+", behind a place that is none", p, 1, op(api.OpAdd, index("s", word(9)), e), w, a)
		wantNoEval(t, what+", that isn't picked", p, 1, op(api.OpPick, word(1), x, e), w, a)
	}
	// What may be in one function may not be in the other.
	wantEval(t, "p, in the second one", p, 1, name("p"), words{"p": 4}, nil, 4, nil, api.OK)
	wantNoEval(t, "p, in the first one", p, 0, name("p"), words{"p": 4}, nil)
	wantNoEval(t, "y, in the first one", p, 0, name("y"), words{"y": 4}, arrays{"y": {1, 2}})
	wantNoEval(t, "s, in the first one", p, 0, index("s", word(0)), nil, evalArrays())
}

// P8.2: an expression may nest as deep as one in a statement that stands in no other, and be as large.
func TestEvalDeep(t *testing.T) {
	p := evalProgram(t)
	e := word(5)
	for deep := 1; deep <= 70; deep++ {
		want := uint64(5)
		if deep%2 == 0 {
			want = greatest - 5
		}
		if deep <= api.MaxNest {
			wantEval(t, fmt.Sprint(deep, " deep"), p, 1, e, nil, nil, want, nil, api.OK)
		} else {
			wantNoEval(t, fmt.Sprint(deep, " deep"), p, 1, e, nil, nil)
		}
		e = op(api.OpNot, e)
	}
	for range 1<<16 - 70 {
		e = op(api.OpNot, e)
	}
	wantNoEval(t, "as deep as may be given", p, 1, e, nil, nil)
	// With the statement around it these are just as many as a program may have.
	wide := index("s", name("x"))
	for range 14 {
		wide = op(api.OpAdd, wide, wide)
	}
	wide = op(api.OpAdd, op(api.OpAdd, wide, word(1)), word(1))
	one := program(t, "fn f(x) { stack s 2; }")
	x, places, errno := source.Eval(one, 0, wide, words{"x": 1}, arrays{"s": {0, 3}})
	if x != 3<<14+2 || len(places) != 1<<14 || errno != api.OK {
		t.Error(x, len(places), errno)
	}
	wide = word(1)
	for range 15 {
		wide = op(api.OpAdd, wide, wide)
	}
	wantEval(t, "as large as may be", one, 0, wide, nil, nil, 1<<15, nil, api.OK)
	wantNoEval(t, "one larger", one, 0, op(api.OpNot, wide), nil, nil)
}

// P8.2: ErrArg: a word or array of the expression that is not handed in, or not as long as it should be; also ahead of ErrBounds.
func TestEvalOfMissing(t *testing.T) {
	p := evalProgram(t)
	all := expr(t, "(((x + p) + (y + i)) * (r[0] + (s[0] + k[0])))")
	// The sum of the words is 5: the last one is as if it were 1 less than 0.
	wantEval(t, "all of it", p, 1, all, evalWords(), evalArrays(), 5*(10+3+100), []uint64{0, 0}, api.OK)
	wantNoEval(t, "nothing", p, 1, all, nil, nil)
	wantNoEval(t, "no words", p, 1, all, nil, evalArrays())
	wantNoEval(t, "no arrays", p, 1, all, evalWords(), nil)
	for n := range evalWords() {
		w := evalWords()
		delete(w, n)
		wantNoEval(t, "without "+n, p, 1, all, w, evalArrays())
		wantNoEval(t, n+" alone, without it", p, 1, name(n), w, evalArrays())
		wantNoEval(t, n+" alone, of nothing", p, 1, name(n), nil, nil)
		wantNoEval(t, n+", behind a place that is none", p, 1, op(api.OpAdd, index("s", word(4)), name(n)), w, evalArrays())
		wantNoEval(t, n+", in a place", p, 1, index("s", name(n)), w, evalArrays())
		wantNoEval(t, n+", that isn't picked", p, 1, op(api.OpPick, word(0), name(n), word(1)), w, evalArrays())
		a := evalArrays()
		a[n] = []uint64{1}
		wantNoEval(t, n+", handed in as an array", p, 1, name(n), w, a)
	}
	for n, l := range evalArrays() {
		for what, other := range map[string][]uint64{"nil": nil, "empty": {}, "too short": l[:len(l)-1], "too long": append(slices.Clone(l), 0), "far too long": make([]uint64, 600)} {
			a := evalArrays()
			a[n] = other
			wantNoEval(t, n+" "+what, p, 1, all, evalWords(), a)
			wantNoEval(t, n+" alone, "+what, p, 1, index(n, word(0)), evalWords(), a)
			wantNoEval(t, n+" "+what+", at no place", p, 1, index(n, word(900)), evalWords(), a)
			wantNoEval(t, n+" "+what+", that isn't picked", p, 1, op(api.OpPick, word(1), name("x"), index(n, word(0))), evalWords(), a)
			wantNoEval(t, n+" "+what+", behind a place that is none", p, 1, op(api.OpAdd, index("r", word(3)), index(n, word(0))), evalWords(), a)
		}
		a, w := evalArrays(), evalWords()
		delete(a, n)
		w[n] = 1
		wantNoEval(t, n+" handed in as a word", p, 1, index(n, word(0)), w, a)
	}
	// Of another function an array of that name has another Size.
	q := program(t, "fn g() { stack s 2; } fn f() { stack s 3; }")
	for f, size := range []int{2, 3} {
		for n := range 5 {
			a := arrays{"s": make([]uint64, n)}
			if n == size {
				wantEval(t, "as long as it should be", q, f, index("s", word(1)), nil, a, 0, []uint64{1}, api.OK)
			} else {
				wantNoEval(t, "not as long", q, f, index("s", word(1)), nil, a)
			}
		}
	}
}
