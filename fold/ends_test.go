package fold_test

import (
	"fmt"
	"slices"
	"strings"
	"sync"
	"testing"

	"muffle/api"
	"muffle/fold"
	"muffle/scope"
)

// withStack is a program of alone with two words, of which one is set to this, and an array on the stack.
func withStack(e api.Expr) api.Program {
	p := alone(2, set("x1", e))
	p.Funcs[0].Vars = append(p.Funcs[0].Vars, api.Var{Name: "s", Kind: api.VarStack, Size: 2})
	return p
}

// P12.1: an expression that is just as deep as may be; one that is deeper is refused, though what comes of it would not be.
func TestDeepExprs(t *testing.T) {
	zero, p, x := word(0), name("p"), name("x0")
	same := func(e api.Expr) api.Expr { return e }
	for what, c := range map[string]struct {
		leaf, want         api.Expr
		within, wantWithin func(e api.Expr) api.Expr
	}{
		"numbers":  {x, zero, func(e api.Expr) api.Expr { return op(api.OpNeg, e) }, same},
		"sums":     {x, zero, func(e api.Expr) api.Expr { return op(api.OpAdd, x, e) }, same},
		"others":   {p, p, func(e api.Expr) api.Expr { return op(api.OpNeg, e) }, func(e api.Expr) api.Expr { return op(api.OpNeg, e) }},
		"mixed":    {p, p, func(e api.Expr) api.Expr { return op(api.OpSub, x, e) }, func(e api.Expr) api.Expr { return op(api.OpSub, zero, e) }},
		"chosen":   {p, p, func(e api.Expr) api.Expr { return op(api.OpPick, x, word(1), e) }, same},
		"left out": {p, p, func(e api.Expr) api.Expr { return op(api.OpPick, x, e, p) }, same},
		"places":   {x, zero, func(e api.Expr) api.Expr { return index("s", e) }, func(e api.Expr) api.Expr { return index("s", e) }},
		"may fail": {index("s", x), index("s", zero), func(e api.Expr) api.Expr { return op(api.OpPick, x, e, p) }, func(e api.Expr) api.Expr { return op(api.OpPick, zero, e, p) }},
	} {
		e, want := c.leaf, c.want
		for range api.MaxNest - 1 - len(c.leaf.Args) {
			e, want = c.within(e), c.wantWithin(want)
		}
		wantOf(t, what, withStack(e), withStack(want), "=")
		wantErrno(t, what+", one deeper", withStack(c.within(e)), api.ErrNest)
	}
}

// P12.1: statements that are just as deep as may be: branches that are replaced, that stay, loops, and any of them in turn.
func TestDeepStmts(t *testing.T) {
	type wrap struct {
		of    func(l ...api.Stmt) api.Stmt
		stays bool
		terms string
	}
	wraps := []wrap{
		{func(l ...api.Stmt) api.Stmt { return when(word(3), l...) }, false, "yes{%s}"},
		{func(l ...api.Stmt) api.Stmt { return unless(name("x0"), l...) }, false, "no{%s}"},
		{func(l ...api.Stmt) api.Stmt { return when(name("p"), l...) }, true, "if{%s}{}"},
		{func(l ...api.Stmt) api.Stmt { return unless(name("p"), l...) }, true, "if{}{%s}"},
		{func(l ...api.Stmt) api.Stmt { return while(name("p"), l...) }, true, "while{%s}"},
	}
	for first := range wraps {
		for step := range wraps {
			l, want, terms := stmts{set("x1", name("x0"))}, stmts{set("x1", word(0))}, "="
			for deep := range api.MaxNest - 1 {
				w := wraps[(first+deep*step)%len(wraps)]
				l, terms = stmts{w.of(l...)}, strings.Replace(w.terms, "%s", terms, 1)
				if w.stays {
					want = stmts{w.of(want...)}
				}
			}
			what := fmt.Sprint("from ", first, " by ", step)
			wantOf(t, what, alone(2, l...), alone(2, want...), terms)
			wantErrno(t, what+", one deeper", alone(2, when(word(1), l...)), api.ErrNest)
		}
	}
}

// P12.1: programs with as many statements and expressions as there may be, and one more.
func TestMany(t *testing.T) {
	for _, c := range []struct {
		what        string
		each        stmts
		want        stmts
		terms, left string
	}{
		{"numbers", stmts{set("x1", word(1))}, stmts{set("x1", word(1))}, "=", ""},
		{"sums", stmts{set("x1", op(api.OpAdd, name("x0"), word(1)))}, stmts{set("x1", word(1))}, "=", "="},
		{"what is left out", stmts{when(name("x0"), set("x1", name("p")))}, nil, "no{}", "no{}"},
		{"what is taken", stmts{when(word(1), set("x1", name("x0")))}, stmts{set("x1", word(0))}, "yes{=}", "yes{=}"},
		{"branches", stmts{when(name("p"), set("x1", name("x0")))}, stmts{when(name("p"), set("x1", word(0)))}, "if{=}{}", "if{=}{}"},
		{"loops", stmts{while(name("p"), set("x1", name("x0")))}, stmts{while(name("p"), set("x1", word(0)))}, "while{=}", "while{=}"},
	} {
		size := scope.Size(alone(2, c.each...))
		n := api.MaxSize / size
		terms := strings.TrimSpace(strings.Repeat(c.terms+" ", n))
		p, want := alone(2, slices.Repeat(c.each, n)...), alone(2, slices.Repeat(c.want, n)...)
		wantOf(t, c.what, p, want, terms)
		if c.left == "" {
			wantRounds(t, c.what, p, want)
		} else {
			wantRounds(t, c.what, p, want, terms)
		}
		p.Funcs[0].Body = append(p.Funcs[0].Body, slices.Repeat(stmts{when(word(0))}, (api.MaxSize-n*size)/2+1)...)
		wantErrno(t, c.what+", one more", p, api.ErrMany)
	}
	// In one list within as many loops as there may be, all of which set the word.
	l := slices.Repeat(stmts{set("x1", name("x0"))}, 32000)
	want := slices.Repeat(stmts{set("x1", word(0))}, 32000)
	terms := strings.TrimSpace(strings.Repeat("= ", 32000))
	for range api.MaxNest - 1 {
		l, want, terms = stmts{while(name("x1"), l...)}, stmts{while(name("x1"), want...)}, "while{"+terms+"}"
	}
	wantOf(t, "deep loops", alone(2, l...), alone(2, want...), terms)
	// An expression that is as large as a program may be.
	e := name("x0")
	for range 14 {
		e = op(api.OpXor, e, e)
	}
	wantOf(t, "a large expression", alone(1, set("x0", e), set("x0", e)), alone(1, set("x0", word(0)), set("x0", word(0))), "= =")
}

// P12.1: all that there may be of words, known and not: each counts by itself.
func TestManyVars(t *testing.T) {
	p := alone(api.MaxVars - 1)
	var l, want stmts
	for i := range api.MaxVars - 1 {
		s := fmt.Sprint("x", i)
		l = append(l, set("p", op(api.OpAdd, name(s), name("p"))), set(s, word(uint64(i))))
		want = append(want, set("p", op(api.OpAdd, word(0), name("p"))), set(s, word(uint64(i))))
	}
	for i := range api.MaxVars - 1 {
		l = append(l, set("p", name(fmt.Sprint("x", i))))
		want = append(want, set("p", word(uint64(i))))
	}
	result := scope.Clone(p)
	p.Funcs[0].Body, result.Funcs[0].Body = l, want
	wantOf(t, "all words", p, result, strings.TrimSpace(strings.Repeat("= ", len(l))))
}

// P12.1, P12.2: calls at one time do not meet.
func TestAtOneTime(t *testing.T) {
	p := chain(5)
	p.Funcs[0].Body = append(p.Funcs[0].Body, when(name("x0"), set("p", word(1))), set("p", name("x0")))
	want, terms, errno := folded(t, "alone", p)
	if errno != api.OK {
		t.Fatal(errno)
	}
	wantAll, all, _ := foldedAll(t, "alone", p)
	k := known{"a": 4}
	e := expr(t, "pick(a, (a + p), s[a])")
	wantE := expr(t, "pick(4, (4 + p), s[4])")
	var at sync.WaitGroup
	for range 8 {
		at.Go(func() {
			for range 50 {
				if q, now, errno := fold.Program(p); errno != api.OK || !scope.Same(q, want) || tellTerms(now) != tellTerms(terms) {
					t.Error(errno, tellTerms(now))
				}
				if q, now, errno := fold.Rounds(p); errno != api.OK || !scope.Same(q, wantAll) || !slices.Equal(tellAll(now), tellAll(all)) {
					t.Error(errno, tellAll(now))
				}
				if got := fold.Expr(e, k); !sameExpr(got, wantE) || fold.Safe(e) {
					t.Error(got)
				}
				if l := fold.Sets(p.Funcs[0].Body...); !slices.Equal(l, []string{"p", "x1", "x2", "x3", "x4", "x5"}) {
					t.Error(l)
				}
			}
		})
	}
	at.Wait()
}

// P12.1: what lies behind the ends of the lists that are handed in stays, too.
func TestBehindTheEnds(t *testing.T) {
	p := program(t, "region k 0 2; fn f(x) -> x { var z; var y; if 1 { z = (x + k[y]); z = 1; } }")
	mark := api.Var{Name: "mark", Kind: api.VarArray, Size: 7}
	f := &p.Funcs[0]
	vars := append(slices.Clone(f.Vars), mark, mark, mark)
	f.Vars = vars[:2]
	body := append(slices.Clone(f.Body), set("mark", word(1)), set("mark", word(2)))
	f.Body = body[:1]
	inner := append(slices.Clone(body[0].Body), set("mark", word(3)))
	f.Body[0].Body = inner[:2]
	args := append(slices.Clone(inner[0].E.Args), word(4), word(5))
	inner[0].E.Args = args[:2]
	for range 2 {
		if _, _, errno := fold.Program(p); errno != api.OK {
			t.Fatal(errno)
		}
		if _, _, errno := fold.Rounds(p); errno != api.OK {
			t.Fatal(errno)
		}
	}
	if !slices.Equal(vars[2:], []api.Var{mark, mark, mark}) || body[1].Name != "mark" || body[2].E.Word != 2 || inner[2].E.Word != 3 || args[2].Word != 4 || args[0].Name != "x" || args[1].Args[0].Name != "y" {
		t.Error(vars, body, inner, args)
	}
}
