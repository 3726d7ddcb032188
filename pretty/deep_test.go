package pretty_test

import (
	"math/rand"
	"testing"

	"muffle/api"
	"muffle/pretty"
)

func wantDeep(t *testing.T, want int, l ...api.Stmt) {
	t.Helper()
	if got := pretty.Deep(l...); got != want {
		t.Errorf("Deep: %d, not %d", got, want)
	}
}

func wantDepth(t *testing.T, want int, e api.Expr) {
	t.Helper()
	if got := pretty.Depth(e); got != want {
		t.Errorf("Depth: %d, not %d", got, want)
	}
}

// P5.2: Depth.
func TestDepth(t *testing.T) {
	x := name("x")
	wantDepth(t, 1, x)
	wantDepth(t, 1, word(0))
	wantDepth(t, 2, index("r", x))
	wantDepth(t, 3, op(api.OpAdd, x, nots(1, x)))
	wantDepth(t, 3, op(api.OpAdd, nots(1, x), x))
	wantDepth(t, 5, op(api.OpPick, x, nots(3, x), nots(2, x)))
	for _, n := range []int{63, 64, 65, 1000} {
		wantDepth(t, n+1, nots(n, x))
	}
	// Of anything.
	wantDepth(t, 1, api.Expr{})
	wantDepth(t, 1, api.Expr{Args: exprs{}})
	wantDepth(t, 1, api.Expr{Op: -1, Name: "for", Word: 1})
	wantDepth(t, 2, api.Expr{Args: exprs{{}}})
	wantDepth(t, 2, op(api.OpConst, x))
	wantDepth(t, 3, op(99, x, x, api.Expr{}, op(api.OpVar, api.Expr{}), x))
	wantDepth(t, 3, nots(2, api.Expr{}))
}

// P5.2: Deep.
func TestDeep(t *testing.T) {
	x := name("x")
	wantDeep(t, 0)
	wantDeep(t, 0, stmts{}...)
	wantDeep(t, 2, set("x", x))
	wantDeep(t, 3, set("x", nots(1, x)))
	wantDeep(t, 4, put("r", nots(2, x), x))
	wantDeep(t, 4, put("r", x, nots(2, x)))
	wantDeep(t, 1, call(nil, "f"))
	wantDeep(t, 1, call([]string{"a", "b"}, "f"))
	wantDeep(t, 5, call(nil, "f", x, nots(3, x), nots(1, x)))
	wantDeep(t, 1, rounds("i", 0, 9))
	wantDeep(t, 3, rounds("i", 0, 9, rounds("i", 0, 9), set("x", x)))
	wantDeep(t, 2, when(x, nil, nil))
	wantDeep(t, 3, when(x, stmts{set("x", x)}, stmts{rounds("i", 0, 9)}))
	wantDeep(t, 3, when(x, stmts{rounds("i", 0, 9)}, stmts{set("x", x)}))
	wantDeep(t, 6, when(nots(4, x), stmts{set("x", x)}, nil))
	wantDeep(t, 4, set("x", x), while(x, while(x, set("x", x))), set("x", x))
	for what, wrap := range wraps() {
		for _, n := range []int{1, 62, 63, 64, 65, 1000} {
			if got := pretty.Deep(within(n, rounds("i", 0, 9), wrap)); got != n+1 && (n > 1 || got != 2) {
				t.Errorf("%d deep by %s: %d", n+1, what, got)
			}
		}
	}
}

// P5.2: Deep of what can't be told: each expression and statement counts, whatever the kind; a zero E or A is none, of Args each is one.
func TestDeepOfAnything(t *testing.T) {
	x := name("x")
	none := api.Expr{Args: exprs{}}
	wantDeep(t, 1, api.Stmt{})
	wantDeep(t, 1, api.Stmt{}, api.Stmt{Kind: 99, Name: "for"})
	wantDeep(t, 1, api.Stmt{E: none, A: none, Args: exprs{}, Body: stmts{}, Else: stmts{}})
	wantDeep(t, 1, api.Stmt{Kind: api.StSet})
	for kind := api.StmtKind(-1); kind <= 8; kind++ {
		wantDeep(t, 2, api.Stmt{Kind: kind, Args: exprs{{}}})
		wantDeep(t, 2, api.Stmt{Kind: kind, Args: exprs{none, none}})
		wantDeep(t, 4, api.Stmt{Kind: kind, Args: exprs{{}, nots(2, none)}})
		wantDeep(t, 2, api.Stmt{Kind: kind, Body: stmts{{}}})
		wantDeep(t, 3, api.Stmt{Kind: kind, Else: stmts{{}, {Args: exprs{{}}}}})
		for _, e := range []api.Expr{{Op: -1}, {Word: 1}, {Name: "for"}} {
			wantDeep(t, 2, api.Stmt{Kind: kind, E: e})
			wantDeep(t, 2, api.Stmt{Kind: kind, A: e})
		}
		wantDeep(t, 3, api.Stmt{Kind: kind, E: api.Expr{Args: exprs{{}}}})
		wantDeep(t, 3, api.Stmt{Kind: kind, A: api.Expr{Args: exprs{{}}}})
		wantDeep(t, 4, api.Stmt{Kind: kind, E: x, A: nots(2, x), Body: stmts{{E: x}}, Else: stmts{{}}})
	}
}

// P5.2: Depth and Deep of a program that is changed anyhow.
func TestDeepLikeLevels(t *testing.T) {
	p := whole()
	eachChange(&p, func(what string) {
		for _, f := range p.Funcs {
			if got, want := pretty.Deep(f.Body...), modelDeep(f.Body); got != want {
				t.Errorf("%s: %d, not %d", what, got, want)
			}
		}
	})
	m := maker{rand.New(rand.NewSource(52))}
	for range 1000 {
		e, l := m.expr(1+m.Intn(6)), m.stmts(1+m.Intn(5))
		wantDepth(t, modelDepth(e), e)
		wantDeep(t, modelDeep(l), l...)
	}
}

// P5.1: what is 64 deep is told; what is deeper isn't.
func TestTooDeepExprs(t *testing.T) {
	x := name("x")
	for _, n := range []int{62, 63, 64, 65, 66, 1000} {
		for _, e := range []api.Expr{nots(n-1, x), nots(n-2, index("r", word(1))), op(api.OpAdd, x, nots(n-2, x)), op(api.OpAdd, nots(n-2, x), x), op(api.OpPick, x, x, nots(n-2, x)), index("r", nots(n-2, x))} {
			if modelDepth(e) != n {
				t.Fatal("not so deep:", n)
			}
			if n <= 64 {
				wantExpr(t, e, modelExprText(e), api.OK)
			} else {
				wantExpr(t, e, "", api.ErrArg)
			}
			// In a statement it is one deeper.
			for _, s := range []api.Stmt{set("x", e), put("r", e, x), put("r", x, e), when(e, nil, nil), while(e), call(nil, "f", x, e)} {
				wantAsDeep(t, n+1, s)
			}
		}
	}
}

// P5.1: statements that are 64 deep, and deeper, by each way in which one stands within another.
func TestTooDeepStatements(t *testing.T) {
	x := name("x")
	for _, wrap := range wraps() {
		for _, n := range []int{62, 63, 64, 65, 66, 1000} {
			wantAsDeep(t, n, within(n-2, set("x", x), wrap))
			wantAsDeep(t, n, within(n-1, call(nil, "f"), wrap))
			wantAsDeep(t, n, within(n-32, set("x", nots(30, x)), wrap))
			wantAsDeep(t, n, set("x", x), within(n-3, put("r", nots(1, x), x), wrap), set("x", x))
		}
	}
}

// wantAsDeep wants statements that are so deep to be told, or not.
func wantAsDeep(t *testing.T, deep int, l ...api.Stmt) {
	t.Helper()
	wantDeep(t, deep, l...)
	if deep <= 64 {
		wantText(t, program(l...), modelText(program(l...)))
		return
	}
	wantNoText(t, "what is too deep", program(l...))
	if lines := gone(pretty.Lines(l...)); len(lines) > 0 {
		t.Errorf("lines of what is too deep: %.100q", lines)
	}
}

// P0.8: what nests as deep as may be at all ends without a panic.
func TestVeryDeep(t *testing.T) {
	x := name("x")
	deep := nots(1<<16-2, x)
	wantDepth(t, 1<<16-1, deep)
	wantExpr(t, deep, "", api.ErrArg)
	if !pretty.SameExpr(deep, nots(1<<16-2, x)) || pretty.SameExpr(deep, nots(1<<16-2, word(1))) {
		t.Error("SameExpr of what is very deep")
	}
	for _, wrap := range wraps() {
		s := within(1<<16-3, set("x", x), wrap)
		wantAsDeep(t, 1<<16-1, s)
		if !pretty.SameStmts(stmts{s}, stmts{within(1<<16-3, set("x", x), wrap)}) || pretty.SameStmts(stmts{s}, stmts{within(1<<16-3, set("y", x), wrap)}) {
			t.Error("SameStmts of what is very deep")
		}
	}
	wantAsDeep(t, 1<<16, set("x", deep))
}
