package inline_test

import (
	"fmt"
	"slices"
	"strings"
	"sync"
	"testing"

	"muffle/api"
	"muffle/inline"
	"muffle/scope"
)

// laidAhead is a program in whose last function so many calls more are taken in, ahead of all others: of functions that call functions, and do nothing else.
func laidAhead(p api.Program, n int) api.Program {
	out := scope.Clone(p)
	var ahead []api.Func
	var calls stmts
	for i := range 16 {
		f := api.Func{Name: fmt.Sprint("ahead", i)}
		if i > 0 {
			of := ahead[i-1].Name
			f.Body = stmts{call(of, nil), call(of, nil)}
		}
		ahead = append(ahead, f)
	}
	// A call of the function i takes 2^(i+1) - 1.
	for i := 15; i >= 0; i-- {
		for ; n >= 2<<i-1; n -= 2<<i - 1 {
			calls = append(calls, call(ahead[i].Name, nil))
		}
	}
	last := &out.Funcs[len(out.Funcs)-1]
	last.Body = append(calls, last.Body...)
	out.Funcs = append(ahead, out.Funcs...)
	return out
}

// P10.1, P10.2: just MaxSize calls, and one more, of functions that do nothing.
func TestManyCalls(t *testing.T) {
	none := program(t, "fn f() { }")
	for _, n := range []int{1, 2, 3, 100, 32767, api.MaxSize - 1, api.MaxSize} {
		p := laidAhead(none, n)
		wantCalls(t, fmt.Sprint(n, " calls"), p, n)
		q, terms, errno := taken(t, fmt.Sprint(n, " calls"), p)
		if errno != api.OK || !scope.Same(q, none) || countCalls(terms) != n {
			t.Error(n, errno, q, countCalls(terms))
		}
	}
	for _, n := range []int{api.MaxSize + 1, api.MaxSize + 2, 2*api.MaxSize - 1, 2 * api.MaxSize} {
		p := laidAhead(none, n)
		wantCalls(t, fmt.Sprint(n, " calls"), p, api.MaxSize+1)
		wantErrno(t, fmt.Sprint(n, " calls"), p, api.ErrMany)
	}
	// Far more than could ever be counted one by one.
	var p api.Program
	for i := range api.MaxFuncs {
		f := api.Func{Name: fmt.Sprint("f", i)}
		if i > 0 {
			f.Body = slices.Repeat(stmts{call(fmt.Sprint("f", i-1), nil)}, 2000)
		}
		p.Funcs = append(p.Funcs, f)
	}
	wantCalls(t, "2000 to the 31", p, api.MaxSize+1)
	wantErrno(t, "2000 to the 31", p, api.ErrMany)
	if l, errno := inline.Reached(p); errno != api.OK || len(l) != api.MaxFuncs-1 {
		t.Error(errno, l)
	}
	if l, errno := inline.Names(p); errno != api.OK || len(l) != 0 {
		t.Error(errno, l)
	}
}

func countCalls(l []api.Term) int {
	n := 0
	for _, x := range l {
		if x.Kind == api.TermCall {
			n++
		}
		for _, sub := range x.Subs {
			n += countCalls(sub)
		}
	}
	return n
}

// P10.1: calls are ErrMany ahead of what the result is, and of how deep it is.
func TestManyCallsDeep(t *testing.T) {
	p := deepCall(t, 40, 25)
	wantErrno(t, "deep", p, api.ErrNest)
	wantErrno(t, "deep, with as many calls as there may be", laidAhead(p, api.MaxSize-1), api.ErrNest)
	wantErrno(t, "deep, with one more", laidAhead(p, api.MaxSize), api.ErrMany)
}

// deepCall is a program whose last function calls one from within so many branches, which has a statement within so many.
func deepCall(t *testing.T, outer, inner int) api.Program {
	t.Helper()
	p := program(t, "fn f() { var i; } fn m() { }")
	l := stmts{rounds("i", 0, 0)}
	for range inner {
		l = stmts{when(word(1), l...)}
	}
	p.Funcs[0].Body, l = l, stmts{call("f", nil)}
	for range outer {
		l = stmts{when(word(1), l...)}
	}
	p.Funcs[1].Body = l
	return p
}

// P10.1: just MaxSize statements, and one more: loops without rounds, which have no expressions.
func TestManyStmts(t *testing.T) {
	p := program(t, "fn f() { var i; "+strings.Repeat("for i 0 0 { } ", 255)+"} fn g() { var i; for i 0 0 { f(); } f(); } fn m() { var j; g(); }")
	last := &p.Funcs[2].Body
	*last = slices.Repeat(*last, 128)
	q, terms, errno := taken(t, "nearly as many as there may be", p)
	if errno != api.OK || scope.Size(q) != 128*511 || len(terms) != 128 {
		t.Fatal(errno, scope.Size(q), len(terms))
	}
	for range 128 {
		*last = append(stmts{rounds("j", 0, 0)}, *last...)
	}
	q, _, errno = taken(t, "as many as there may be", p)
	if errno != api.OK || scope.Size(q) != api.MaxSize {
		t.Fatal(errno, scope.Size(q))
	}
	more := scope.Clone(p)
	more.Funcs[2].Body = append(more.Funcs[2].Body, rounds("j", 0, 0))
	wantErrno(t, "one more behind them", more, api.ErrMany)
	more.Funcs[2].Body = append(stmts{rounds("j", 0, 0)}, p.Funcs[2].Body...)
	wantErrno(t, "one more ahead of them", more, api.ErrMany)
	more.Funcs[2].Body = append(stmts{call("g", nil)}, p.Funcs[2].Body[1:]...)
	wantErrno(t, "many more", more, api.ErrMany)
	// A call with nothing in it is no statement of the result.
	wantOf(t, "and calls of nothing", laidAhead(p, 100), q, callsTold(100)+" "+tellTerms(must(t, p)))
}

// callsTold is what the terms of so many calls that laidAhead lays are told as.
func callsTold(n int) string {
	var within func(i int) string
	within = func(i int) string {
		if i == 0 {
			return "call{}{}"
		}
		return "call{" + within(i-1) + " " + within(i-1) + "}{}"
	}
	var l []string
	for i := 15; i >= 0; i-- {
		for ; n >= 2<<i-1; n -= 2<<i - 1 {
			l = append(l, within(i))
		}
	}
	return strings.Join(l, " ")
}

// must are the terms of a program.
func must(t *testing.T, p api.Program) []api.Term {
	t.Helper()
	_, terms, errno := inline.Program(p)
	if errno != api.OK {
		t.Fatal(errno)
	}
	return terms
}

// manyDeep is a program that calls g n times from within so many branches that what g has in a branch is too deep; its result has MaxSize statements, and more more, if g has each of them.
func manyDeep(t *testing.T, functions string, n, each, more int) api.Program {
	t.Helper()
	p := program(t, functions+" fn m() { var i; }")
	l := slices.Repeat(stmts{call("g", nil)}, n)
	rest := api.MaxSize + more - n*each - (api.MaxNest - 1)
	l = append(l, slices.Repeat(stmts{rounds("i", 0, 0)}, rest)...)
	for range api.MaxNest - 1 {
		l = stmts{when(word(1), l...)}
	}
	p.Funcs[len(p.Funcs)-1].Body = l
	return p
}

// P10.1: statements count however deep they nest, ahead of that the result is too deep: also those by which arguments are set, words and arrays are 0, and answers are set.
func TestManyDeepStmts(t *testing.T) {
	for _, c := range []struct {
		functions string
		each      int
	}{
		{"fn g() { var x; if 1 { x = (1 + (2 + (3 + 4))); x = 1; x = 2; x = 3; } }", 6},
		{"fn f() { var i; var j; for i 0 0 { } for i 0 2 { for j 0 0 { } } } fn g() { if 1 { f(); } }", 4},
		{"fn f() { var x; if x { x = 1; } else { x = 2; while x { } } } fn g() { if 1 { f(); } }", 6},
		{"fn f() { array r 2; } fn g() { if 1 { f(); } }", 3},
		{"fn f() { array r 512; } fn g() { if 1 { f(); } }", 513},
		{"fn f() { stack s 300; array r 511; var x; var y; } fn g() { if 1 { f(); } }", 814},
		{"fn f(a, b) { } fn g() { if 1 { f(1, 2); } }", 3},
		{"fn f(a, b, c) -> c, b { } fn g() { var x; var y; if 1 { x, y = f(1, 2, x); } }", 8},
		{"fn e() { } fn f(a) -> a { e(); } fn g() { var x; if 1 { x = f(1); x = f(x); e(); } }", 6},
		{"fn e() { array r 3; } fn f() { e(); e(); } fn g() { if 1 { f(); f(); } }", 13},
	} {
		n := min(2000, api.MaxSize/c.each-1)
		for more, want := range map[int]api.Errno{-1: api.ErrNest, 0: api.ErrNest, 1: api.ErrMany, 2: api.ErrMany} {
			what := fmt.Sprint(c.functions, ", ", n, " times, and ", more)
			wantErrno(t, what, manyDeep(t, c.functions, n, c.each, more), want)
		}
	}
}

// P10.1: a result that is nested just as deep as may be, and one deeper: statements, and their expressions.
func TestDeep(t *testing.T) {
	for outer := range api.MaxNest {
		inner := api.MaxNest - 1 - outer
		if _, terms, errno := taken(t, fmt.Sprint("within ", outer, " branches"), deepCall(t, outer, inner)); errno != api.OK || countCalls(terms) != 1 {
			t.Error(outer, errno)
		}
		if inner+1 < api.MaxNest {
			wantErrno(t, fmt.Sprint("within ", outer, " branches, one deeper"), deepCall(t, outer, inner+1), api.ErrNest)
		}
	}
	for deep, want := range map[int]api.Errno{60: api.OK, 61: api.ErrNest} {
		p := program(t, "fn f(a) { var x; if 1 { x = (a + (1 + 2)); } } fn m() { }")
		l := stmts{call("f", nil, word(1))}
		for range deep {
			l = stmts{when(word(1), l...)}
		}
		p.Funcs[1].Body = l
		wantErrno(t, fmt.Sprint("an expression within ", deep), p, want)
	}
	// What is handed to a call is as deep as it was.
	p := program(t, "fn f(a) { } fn m() { }")
	e := word(1)
	for range api.MaxNest - 1 {
		e = op(api.OpNot, e)
	}
	p.Funcs[1].Body = stmts{call("f", nil, e)}
	wantErrno(t, "an argument", p, api.OK)
}

// P10.1, P10.2: a result of just MaxVars, and one more: Names tells them nevertheless.
func TestManyVars(t *testing.T) {
	for _, c := range []struct{ own, params, vars int }{
		{0, 0, api.MaxVars}, {0, api.MaxVars, 0}, {api.MaxVars, 0, 0}, {60, 2, 2}, {63, 1, 0}, {1, 31, 32}, {0, 0, api.MaxVars - 1},
	} {
		for more := range 3 {
			p := program(t, "fn e() { } fn n(x) { var y; } fn f() { } fn m() { e(); }")
			own, f, e := &p.Funcs[3], &p.Funcs[2], &p.Funcs[0]
			args := slices.Repeat(exprs{word(1)}, c.params)
			own.Body = append(own.Body, call("f", nil, args...))
			for i := range c.own {
				own.Params = append(own.Params, reg(fmt.Sprint("own", i)))
			}
			for i := range c.params {
				f.Params = append(f.Params, reg(fmt.Sprint("a", i)))
			}
			for i := range c.vars {
				f.Vars = append(f.Vars, reg(fmt.Sprint("b", i)))
			}
			for i := range more {
				e.Vars = append(e.Vars, reg(fmt.Sprint("c", i)))
			}
			all, want := c.own+c.params+c.vars+more, api.OK
			if all > api.MaxVars {
				want = api.ErrMany
			}
			what := fmt.Sprint(c, " and ", more)
			wantErrno(t, what, p, want)
			if l, errno := inline.Names(p); errno != api.OK || len(l) != all-c.own {
				t.Error(what, errno, tellVars(l))
			}
		}
	}
	// All that there may be, with names that are taken.
	var p api.Program
	for i := range api.MaxFuncs {
		f := api.Func{Name: fmt.Sprint("f", i)}
		for k := range api.MaxVars {
			f.Vars = append(f.Vars, reg(fmt.Sprint("v", k)))
		}
		if i > 0 {
			f.Body = stmts{call(fmt.Sprint("f", i-1), nil)}
		}
		p.Funcs = append(p.Funcs, f)
	}
	for i := range api.MaxRegions {
		p.Regions = append(p.Regions, api.Region{Name: fmt.Sprint("v", 1000+i), Addr: 8 * i, Size: 1})
	}
	wantErrno(t, "all that there may be", p, api.ErrMany)
	l, errno := inline.Names(p)
	if errno != api.OK || len(l) != 31*64 || l[0].Name != "v64" || l[935].Name != "v999" || l[936].Name != "v1016" || l[1983].Name != "v2063" {
		t.Error(errno, len(l), l[935], l[936], l[1983])
	}
}

// P10.1, P0.3: a result that is far too large, and one that is also too deep to be counted, are refused without being made.
func TestFarTooLarge(t *testing.T) {
	e := index("k", word(1))
	for range 14 {
		e = op(api.OpAdd, e, e)
	}
	p := program(t, "region k 0 2; fn f(x) { } fn g() { } fn h() { } fn m() { }")
	p.Funcs[1].Body = stmts{call("f", nil, e)}
	p.Funcs[2].Body = stmts{call("g", nil)}
	p.Funcs[3].Body = slices.Repeat(stmts{call("h", nil)}, 20000)
	wantErrno(t, "large", p, api.ErrMany)
	p.Funcs[2].Body, p.Funcs[3].Body = nil, nil
	wantErrno(t, "small", p, api.OK)
	// What is too deep does not count beside the statements themselves.
	for deep, want := range map[int]api.Errno{40: api.ErrMany, api.MaxNest - 2: api.ErrNest, api.MaxNest - 1: api.ErrNest} {
		p.Funcs[2].Body, p.Funcs[3].Body = stmts{when(word(1), call("g", nil))}, slices.Repeat(stmts{call("h", nil)}, 15000)
		for range deep {
			p.Funcs[3].Body = stmts{when(word(1), p.Funcs[3].Body...)}
		}
		wantErrno(t, fmt.Sprint("large, and deep: ", deep), p, want)
	}
	// Statements, and lists of them, that come by calls alone.
	p = laidAhead(program(t, "fn m() { }"), api.MaxSize)
	p.Funcs[0].Vars = []api.Var{{Name: "r", Kind: api.VarArray, Size: api.MaxWords}}
	wantErrno(t, "arrays", p, api.ErrMany)
	p.Funcs[0].Vars, p.Funcs[0].Body = nil, stmts{call("e", nil)}
	p.Funcs = append([]api.Func{{Name: "e", Vars: []api.Var{reg("x")}, Body: slices.Repeat(stmts{set("x", word(1))}, 20000)}}, p.Funcs...)
	wantErrno(t, "calls, of a long function", p, api.ErrMany)
}

// P0.7, P0.8: what nests as deep as there may be anything: functions that call each other, each from within as many branches as there may be; and an expression.
func TestDeepest(t *testing.T) {
	var p api.Program
	for i := range api.MaxFuncs {
		f := api.Func{Name: fmt.Sprint("f", i), Body: stmts{when(word(1))}}
		if i > 0 {
			f.Body = stmts{call(fmt.Sprint("f", i-1), nil), when(word(1), call(fmt.Sprint("f", i-1), nil))}
			f.Body = f.Body[:1+i%2]
		}
		for range api.MaxNest - 2 {
			f.Body = stmts{when(word(1), f.Body...)}
		}
		p.Funcs = append(p.Funcs, f)
	}
	if errno := scope.May(p); errno != api.OK {
		t.Fatal(errno)
	}
	wantErrno(t, "the deepest", p, api.ErrMany)
	for i := range p.Funcs {
		p.Funcs[i].Body = nil
		if i > 0 {
			p.Funcs[i].Body = stmts{call(fmt.Sprint("f", i-1), nil)}
		}
		for range api.MaxNest - 1 {
			p.Funcs[i].Body = stmts{when(word(1), p.Funcs[i].Body...)}
		}
	}
	wantCalls(t, "the deepest, one call each", p, 31)
	wantErrno(t, "the deepest, one call each", p, api.ErrNest)
	// Calls alone make nothing deeper.
	for i := range p.Funcs {
		p.Funcs[i].Body = p.Funcs[i].Body[:0]
		if i > 0 {
			p.Funcs[i].Body = stmts{when(word(1), when(word(1), call(fmt.Sprint("f", i-1), nil)))}
		}
	}
	if _, terms, errno := taken(t, "62 deep", p); errno != api.OK || countCalls(terms) != 31 {
		t.Error(errno)
	}

	e := word(1)
	for range 1 << 16 {
		e = index("k", e)
	}
	p = twoFuncs(t)
	wantPlaces(t, "the deepest expression", p, 1, e, 1<<16)
	p.Funcs[1].Body[0].E = e
	wantNothing(t, "the deepest expression", p, api.ErrNest)
	deep := set("y", word(1))
	for range 1 << 16 {
		deep = when(word(1), deep)
	}
	p.Funcs[1].Body[0] = deep
	wantNothing(t, "the deepest statement", p, api.ErrNest)
}

// P10.1, P10.2: calls at one time do not meet.
func TestAtOneTime(t *testing.T) {
	p := program(t, "region k 0 2; fn g(x) -> y { var y; stack s 2; s[0] = k[1]; y = (s[0] + x); } fn f(x) -> x { while (x < 50) { k[1] = x; x = g(x); } }")
	want, terms, errno := taken(t, "alone", p)
	if errno != api.OK {
		t.Fatal(errno)
	}
	told := tellTerms(terms)
	var all sync.WaitGroup
	for range 8 {
		all.Go(func() {
			for range 50 {
				if q, terms, errno := inline.Program(p); errno != api.OK || !scope.Same(q, want) || tellTerms(terms) != told {
					t.Error(errno, tellTerms(terms))
				}
				if l, errno := inline.Names(p); errno != api.OK || len(l) != 3 {
					t.Error(errno, l)
				}
			}
		})
	}
	all.Wait()
}

// P10.1, P10.2: what lies behind the ends of the lists that are handed in stays, too.
func TestBehindTheEnds(t *testing.T) {
	p := program(t, "region k 0 2; fn g(x) -> x { var y; y = x; } fn f(x) -> x { var z; x = g(z); }")
	mark := api.Var{Name: "mark", Kind: api.VarArray, Size: 7}
	last := &p.Funcs[1]
	room := append(slices.Clone(last.Vars), mark, mark, mark)
	last.Vars = room[:1]
	body := append(slices.Clone(last.Body), set("mark", word(1)), set("mark", word(2)))
	last.Body = body[:1]
	if _, _, errno := inline.Program(p); errno != api.OK {
		t.Fatal(errno)
	}
	if _, errno := inline.Names(p); errno != api.OK {
		t.Fatal(errno)
	}
	if !slices.Equal(room[1:], []api.Var{mark, mark, mark}) || body[1].Name != "mark" || body[2].E.Word != 2 {
		t.Error(room, body)
	}
}
