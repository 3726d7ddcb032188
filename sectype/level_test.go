package sectype_test

import (
	"fmt"
	"maps"
	"slices"
	"testing"

	"muffle/api"
	"muffle/scope"
	"muffle/sectype"
)

// level is what Level tells of an expression: s or p, or the error. What is handed in is left as it was.
func level(t *testing.T, what string, p api.Program, f int, e api.Expr, w words) string {
	t.Helper()
	was, wasWords := scope.Clone(p), maps.Clone(w)
	secret, errno := sectype.Level(p, f, e, w)
	if !scope.Same(p, was) || !maps.Equal(w, wasWords) {
		t.Errorf("%s: what was handed in is changed", what)
	}
	if errno != api.OK && secret {
		t.Errorf("%s: secret beside %v", what, errno)
	}
	if errno != api.OK {
		return errno.Error()
	}
	return told([]bool{secret}, errno)
}

func wantLevel(t *testing.T, what string, p api.Program, f int, e api.Expr, w words, want string) {
	t.Helper()
	if got := level(t, what, p, f, e, w); got != want {
		t.Errorf("%s, of %v: %s, not %s", what, w, got, want)
	}
}

// levelProgram has two functions whose names' kinds and levels are unlike, and a region of each level.
func levelProgram(t *testing.T) api.Program {
	t.Helper()
	return program(t, `
		region k 0 2 secret;
		region o 64 2;
		fn g(x secret, r) -> x { array y 2; array q 2 secret; stack i 4; stack s 2; }
		fn f(x, p secret) -> y { var y; var i; array r 3; array q 2; array rs 3 secret; stack s 4; stack t 4 secret; for i 0 2 { y = g(x, 0); } }`)
}

// P9.2: each kind of expression; words have the levels that are handed in, whatever their Secret says.
func TestLevel(t *testing.T) {
	p := levelProgram(t)
	for _, c := range [][3]string{
		{"7", "", "p"}, {"18446744073709551615", "", "p"},
		{"x", "x", "p"}, {"x", "x!", "s"}, {"p", "p", "p"}, {"p", "p!", "s"}, {"y", "y!", "s"}, {"y", "y", "p"}, {"i", "i!", "s"}, {"i", "i", "p"},
		{"r[0]", "", "p"}, {"rs[0]", "", "s"}, {"s[0]", "", "p"}, {"t[0]", "", "s"}, {"o[0]", "", "p"}, {"k[0]", "", "s"}, {"q[1]", "", "p"},
		{"r[x]", "x", "p"}, {"rs[x]", "x", "s"}, {"s[x]", "x", "p"}, {"t[x]", "x", "s"}, {"o[x]", "x", "p"}, {"k[x]", "x", "s"},
		{"r[x]", "x!", refused}, {"rs[x]", "x!", refused}, {"s[x]", "x!", refused}, {"t[x]", "x!", refused}, {"o[x]", "x!", refused}, {"k[x]", "x!", refused},
		{"r[rs[0]]", "", refused}, {"k[k[0]]", "", refused}, {"s[(1 + t[0])]", "", refused}, {"s[o[r[s[x]]]]", "x", "p"}, {"s[o[r[s[x]]]]", "x!", refused}, {"s[o[rs[s[x]]]]", "x", refused},
		{"s[k[x]]", "x!", refused}, {"k[s[x]]", "x", "s"}, {"s[9]", "", "p"}, {"t[18446744073709551615]", "", "s"},
		{"(x + p)", "x p", "p"}, {"(x + p)", "x! p", "s"}, {"(x + p)", "x p!", "s"}, {"(x + p)", "x! p!", "s"},
		{"(x - x)", "x!", "s"}, {"(x * 0)", "x!", "s"}, {"(x == x)", "x!", "s"}, {"pick(1, 2, x)", "x!", "s"}, {"pick(x, 1, 1)", "x!", "s"}, {"pick(0, x, 1)", "x!", "s"}, {"pick(x, x, x)", "x", "p"},
		{"(x + r[p])", "x! p", "s"}, {"(x + r[p])", "x p", "p"}, {"(x + r[p])", "x p!", refused}, {"(r[p] + x)", "x! p!", refused}, {"(rs[x] + x)", "x!", refused}, {"(x + rs[x])", "x!", refused},
		{"~-~-x", "x!", "s"}, {"~-~-x", "x", "p"}, {"((x + 1) + (2 + (3 + y)))", "x y!", "s"}, {"((x + 1) + (2 + (3 + y)))", "x y", "p"},
		// Others may be handed in, whatever they are.
		{"x", "x p! y! i! z! k! r! g! for!", "p"}, {"x", "x! p y i z k r g for", "s"}, {"s[x]", "x s! o! p!", "p"}, {"7", "x!", "p"},
	} {
		wantLevel(t, c[0], p, 1, expr(t, c[0]), wordsOf(c[1]), c[2])
	}
	// Of another function the same names are other things.
	for _, c := range [][3]string{
		{"x", "x", "p"}, {"r", "r!", "s"}, {"y[r]", "r", "p"}, {"q[0]", "", "s"}, {"i[0]", "", "p"}, {"i[r]", "r!", refused}, {"k[x]", "x", "s"}, {"(y[0] + (q[0] + s[0]))", "", "s"},
	} {
		wantLevel(t, "of the first one: "+c[0], p, 0, expr(t, c[0]), wordsOf(c[1]), c[2])
	}
	wantLevel(t, "no words", p, 1, expr(t, "k[(1 + 1)]"), nil, "s")
	wantLevel(t, "empty words", p, 1, expr(t, "o[(1 + 1)]"), words{}, "p")
}

// P9.2: each operation, of a secret in each of its arguments, and of none.
func TestLevelOfOperations(t *testing.T) {
	p := levelProgram(t)
	all := []string{"x", "p", "y"}
	for o := api.OpNot; o <= api.OpPick; o++ {
		args := 2
		switch o {
		case api.OpIndex:
			continue
		case api.OpNot, api.OpNeg:
			args = 1
		case api.OpPick:
			args = 3
		}
		e := op(o)
		for _, n := range all[:args] {
			e.Args = append(e.Args, name(n))
		}
		for set := range 8 {
			w := words{}
			for i, n := range all {
				w[n] = set>>i&1 == 1
			}
			secret := set&(1<<args-1) != 0
			what := fmt.Sprint("the operation ", o)
			wantLevel(t, what, p, 1, e, w, map[bool]string{true: "s", false: "p"}[secret])
			wantLevel(t, what+", in a place", p, 1, index("t", e), w, map[bool]string{true: refused, false: "s"}[secret])
			wantLevel(t, what+", of places", p, 1, op(api.OpNeg, index("s", e)), w, map[bool]string{true: refused, false: "p"}[secret])
		}
	}
}

// P9.2: May's error is told ahead of all others.
func TestLevelOfNoProgram(t *testing.T) {
	for errno, l := range spoils() {
		for i, spoil := range l {
			p := twoFuncs(t)
			spoil(&p)
			what := fmt.Sprint(errno, ", the way ", i)
			for _, f := range []int{-1, 0, 1, 2} {
				wantLevel(t, what, p, f, word(1), nil, errno.Error())
				wantLevel(t, what+", of a word", p, f, name("x"), words{"x": true}, errno.Error())
				wantLevel(t, what+", of nothing", p, f, api.Expr{}, nil, errno.Error())
				wantLevel(t, what+", of a secret place", p, f, index("k", name("x")), words{"x": true}, errno.Error())
			}
		}
	}
}

// P9.2: no such function: ErrArg, ahead of what is asked of the expression.
func TestLevelOfNoFunction(t *testing.T) {
	p := levelProgram(t)
	for _, f := range []int{-1, 2, 3, 32, -1 << 63, 1<<63 - 1} {
		what := fmt.Sprint("the function ", f)
		for _, e := range []api.Expr{word(1), name("x"), name("z"), {}, index("k", name("x")), nots(70)} {
			wantLevel(t, what, p, f, e, words{"x": true}, api.ErrArg.Error())
			wantLevel(t, what, p, f, e, nil, api.ErrArg.Error())
		}
	}
}

// nots are so many OpNot around a word.
func nots(n int) api.Expr {
	e := name("x")
	for range n {
		e = op(api.OpNot, e)
	}
	return e
}

// badExprs are expressions that may not be in levelProgram's last function, by what scope tells of them.
func badExprs() map[api.Errno][]api.Expr {
	x := name("x")
	return map[api.Errno][]api.Expr{
		api.ErrKind: {
			{}, op(22, x, x), op(-1), {Op: api.OpConst, Name: "x"}, op(api.OpConst, x), {Op: api.OpVar, Name: "x", Args: exprs{x}}, {Op: api.OpVar, Name: "x", Word: 1},
			name("r"), name("s"), name("k"), index("x", x), {Op: api.OpIndex, Name: "s"}, {Op: api.OpIndex, Name: "s", Args: exprs{x, x}}, {Op: api.OpIndex, Name: "s", Word: 1, Args: exprs{x}},
			op(api.OpAdd, x), op(api.OpNot, x, x), op(api.OpPick), op(api.OpPick, x, x), {Op: api.OpNot, Name: "x", Args: exprs{x}}, {Op: api.OpNot, Word: 1, Args: exprs{x}},
		},
		api.ErrName: {name("z"), name(""), name("for"), name("g"), name("f"), index("z", x), index("", x), index("g", x)},
		api.ErrNest: {nots(64), nots(65), nots(1000), nots(1<<16 - 1), index("s", nots(63)), op(api.OpAdd, x, nots(63))},
	}
}

// P9.2: an expression that may not be there: scope's error, ahead of what is asked of words, and of levels.
func TestLevelOfNoExpr(t *testing.T) {
	p := levelProgram(t)
	for errno, l := range badExprs() {
		for i, e := range l {
			what := fmt.Sprint(errno, ", the way ", i)
			for _, w := range []words{nil, {"x": false}, {"x": true}, wordsOf("x! z! r! s! k! g! f! for!")} {
				wantLevel(t, what, p, 1, e, w, errno.Error())
				wantLevel(t, what+", behind a word that is not handed in", p, 1, op(api.OpAdd, name("y"), e), w, errno.Error())
				wantLevel(t, what+", ahead of one", p, 1, op(api.OpAdd, e, name("y")), w, errno.Error())
				wantLevel(t, what+", behind a secret place", p, 1, op(api.OpAdd, index("s", index("t", word(0))), e), w, errno.Error())
				wantLevel(t, what+", in a place", p, 1, index("t", e), w, errno.Error())
			}
		}
	}
	// The first one that scope tells: an operation ahead of its arguments, these from the first on.
	for _, c := range []struct {
		e    api.Expr
		want api.Errno
	}{
		{op(api.OpAdd, name("z"), name("r")), api.ErrName},
		{op(api.OpAdd, name("r"), name("z")), api.ErrKind},
		{op(api.OpNot, name("z"), name("z")), api.ErrKind},
		{index("z", name("r")), api.ErrName},
		{index("x", name("z")), api.ErrKind},
		{op(api.OpAdd, op(api.OpNot, op(api.OpNot, name("z"))), name("r")), api.ErrName},
		{op(api.OpAdd, nots(63), name("z")), api.ErrNest},
		{op(api.OpAdd, name("z"), nots(63)), api.ErrName},
	} {
		wantLevel(t, "two that are wrong", p, 1, c.e, nil, c.want.Error())
	}
	// What may be in one function may not be in the other.
	wantLevel(t, "p, in the first one", p, 0, name("p"), words{"p": true}, api.ErrName.Error())
	wantLevel(t, "y, in the first one", p, 0, name("y"), words{"y": true}, api.ErrKind.Error())
	wantLevel(t, "t, in the first one", p, 0, index("t", word(0)), nil, api.ErrName.Error())
	wantLevel(t, "r, in the second one", p, 1, name("r"), words{"r": true}, api.ErrKind.Error())
}

// P9.2: an expression may be as deep, and as large, as one in a statement that stands alone.
func TestLevelDeep(t *testing.T) {
	p := levelProgram(t)
	for n := range 64 {
		wantLevel(t, fmt.Sprint(n, " nots"), p, 1, nots(n), words{"x": true}, "s")
		wantLevel(t, fmt.Sprint(n, " nots"), p, 1, nots(n), words{"x": false}, "p")
	}
	wide := name("x")
	for range 15 {
		wide = op(api.OpAdd, wide, wide)
	}
	wantLevel(t, "as large as may be", p, 1, wide, words{"x": true}, "s")
	wantLevel(t, "a large place", p, 1, index("s", wide.Args[0]), words{"x": true}, refused)
	wantLevel(t, "one larger", p, 1, op(api.OpNot, wide), words{"x": true}, api.ErrMany.Error())
	// How large the program itself is takes no room from it.
	full := program(t, "fn f(x) { }")
	full.Funcs[0].Body = slices.Repeat(stmts{set("x", word(1))}, api.MaxSize/2)
	wantLevel(t, "of a large program", full, 0, wide, words{"x": true}, "s")
}

// P9.2: a word of the expression that is not handed in: ErrArg, ahead of ErrSecret.
func TestLevelOfMissing(t *testing.T) {
	p := levelProgram(t)
	missing := api.ErrArg.Error()
	for _, c := range [][2]string{
		{"x", ""}, {"x", "y p i"}, {"x", "y! p! i! z!"}, {"(x + p)", "x!"}, {"(x + p)", "p!"}, {"(x + p)", ""}, {"s[x]", ""}, {"s[x]", "s!"}, {"t[x]", "p"}, {"pick(1, x, y)", "x"}, {"pick(0, x, y)", "y"},
		{"(s[t[0]] + x)", ""}, {"(x + s[t[0]])", ""}, {"(s[p] + x)", "p!"}, {"(x + s[p])", "p!"}, {"s[(p + x)]", "p!"}, {"s[(x + p)]", "p!"}, {"s[s[x]]", ""}, {"s[t[x]]", ""}, {"(s[y] + (k[p] + x))", "y! p!"},
	} {
		wantLevel(t, c[0], p, 1, expr(t, c[0]), wordsOf(c[1]), missing)
	}
	wantLevel(t, "nil", p, 1, expr(t, "x"), nil, missing)
	wantLevel(t, "nil, of a place", p, 1, expr(t, "s[(1 + x)]"), nil, missing)
	all := expr(t, "((x + p) + s[(y + r[i])])")
	for n := range wordsOf("x p y i") {
		w := wordsOf("x! p! y! i!")
		wantLevel(t, "all of it", p, 1, all, w, refused)
		delete(w, n)
		wantLevel(t, "without "+n, p, 1, all, w, missing)
	}
}
