package scope_test

import (
	"testing"

	"muffle/api"
	"muffle/scope"
)

// P7.1: ErrNest, of statements.
func TestDeepStatements(t *testing.T) {
	x := name("x")
	for what, wrap := range wraps() {
		for n, want := range map[int]api.Errno{1: api.OK, 62: api.OK, 63: api.OK, 64: api.ErrNest, 65: api.ErrNest, 1000: api.ErrNest} {
			for _, s := range good() {
				deep := want
				if modelMay(small(while(word(1), s))) != api.OK {
					t.Fatal("no good statement")
				}
				if n == 63 && (len(s.Body) > 0 || s.Kind == api.StCall) {
					// What stands in it is too deep.
					deep = api.ErrNest
				}
				wantMay(t, what, small(within(n, s, wrap)), deep)
				wantMay(t, what+", behind others", small(set("x", x), within(n, s, wrap), set("x", x)), deep)
			}
			wantMay(t, what+", with nothing", small(within(n, rounds("i", 0, 0), wrap)), want)
			wantMay(t, what+", of a kind that is none", small(within(n, api.Stmt{}, wrap)), max(want, api.ErrKind))
			wantMay(t, what+", around a loop", small(rounds("i", 0, 1, within(n-1, set("x", x), wrap))), want)
		}
	}
	// In a function ahead of the last one.
	for n, want := range map[int]api.Errno{63: api.OK, 64: api.ErrNest} {
		p := small()
		p.Funcs[0].Body = stmts{within(n, set("a", word(1)), wraps()["else"])}
		wantMay(t, "in the first function", p, want)
	}
}

// P7.1: ErrNest, of expressions: one is as deep as its statement.
func TestDeepExpressions(t *testing.T) {
	x := name("x")
	for n, want := range map[int]api.Errno{62: api.OK, 63: api.OK, 64: api.ErrNest, 65: api.ErrNest, 1000: api.ErrNest} {
		for _, e := range []api.Expr{nots(n, x), nots(n-1, index("r", x)), nots(n-1, op(api.OpAdd, x, x)), op(api.OpAdd, x, nots(n-1, x)), op(api.OpPick, x, nots(n-1, word(1)), x), index("key", nots(n-1, x))} {
			wantDeepExpr(t, n, e, want)
		}
		wantDeepExpr(t, n, nots(n, api.Expr{}), max(want, api.ErrKind))
		wantDeepExpr(t, n, nots(n, name("none")), map[api.Errno]api.Errno{api.OK: api.ErrName, api.ErrNest: api.ErrNest}[want])
	}
	// Each statement around makes it deeper.
	for what, wrap := range wraps() {
		for n := range 64 {
			for args := 61 - n; args <= 65-n; args++ {
				if args < 0 {
					continue
				}
				want := api.OK
				if n+args > 63 {
					want = api.ErrNest
				}
				for _, s := range (stmts{set("x", nots(args, x)), put("r", nots(args, x), x), put("r", x, nots(args, x)), while(nots(args, x)), when(nots(args, x), nil, nil), call([]string{"x", "y"}, "f", word(1), nots(args, x))}) {
					wantMay(t, what, small(within(n, s, wrap)), want)
				}
			}
		}
	}
}

// wantDeepExpr wants that error of an expression whose deepest argument has n others around it, in a function's statement.
func wantDeepExpr(t *testing.T, n int, e api.Expr, want api.Errno) {
	t.Helper()
	x := name("x")
	for _, s := range (stmts{set("x", e), put("r", e, x), put("r", x, e), when(e, nil, nil), while(e), call([]string{"x", "y"}, "f", x, e)}) {
		wantMay(t, "an expression", small(s), want)
		if n == 63 {
			wantMay(t, "an expression, one deeper", small(while(word(1), s)), api.ErrNest)
		}
	}
}

// P7.1: what is too deep is told, though it does not count among what is too much.
func TestDeepAndMany(t *testing.T) {
	deep := within(63, while(word(1), many(70000, set("x", word(1)))...), wraps()["else"])
	all := 2 * 65
	if n := scope.Size(small(deep)); n != all {
		t.Error("Size:", n)
	}
	wantMay(t, "many that are too deep", small(deep), api.ErrNest)
	wantMay(t, "many that are too deep, and as many as may be", small(append(many(65536-all, rounds("i", 0, 0)), deep)...), api.ErrNest)
	wantMay(t, "many that are too deep, and too many others", small(append(many(65537-all, rounds("i", 0, 0)), deep)...), api.ErrMany)
	e := nots(63, op(api.OpPick, many(70000, name("x"))...))
	if n := scope.Size(small(set("x", e))); n != 2+65 {
		t.Error("Size:", n)
	}
	// Of the deepest one that is counted it is asked how many arguments it has.
	wantMay(t, "many arguments that are too deep", small(set("x", e)), api.ErrKind)
}

// P0.8: what nests as deep as may be at all ends without a panic.
func TestVeryDeep(t *testing.T) {
	x := name("x")
	progs := []api.Program{small(set("x", nots(1<<16-2, x))), small(put("r", nots(1<<16-2, x), x)), small(call(nil, "f", nots(1<<16-2, x)))}
	for _, wrap := range wraps() {
		progs = append(progs, small(within(1<<16-2, set("x", x), wrap)))
	}
	for i, p := range progs {
		if e := scope.May(p); e != api.ErrNest && !(i == 2 && e == api.ErrArg) {
			t.Error(i, e)
		}
		if n, want := scope.Size(p), modelSize(p); n != want || n < 65 || n > 130 {
			t.Error(i, n, want)
		}
		if form := scope.Form(p); form != (api.Form{}) {
			t.Error(i, form)
		}
		if e := scope.Fit(p, inputOf(p)); e != api.ErrArg {
			t.Error(i, e)
		}
		if v, is, _ := scope.Find(p, 1, "x"); !is || v != reg("x") {
			t.Error(i, v)
		}
		if q := scope.Clone(p); !scope.Same(p, q) || !scope.Same(q, p) {
			t.Error(i, "Clone")
		}
		if scope.Same(p, progs[(i+1)%len(progs)]) {
			t.Error(i, "Same")
		}
	}
}
