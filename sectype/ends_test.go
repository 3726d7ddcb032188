package sectype_test

import (
	"fmt"
	"slices"
	"strings"
	"testing"

	"muffle/api"
)

// P9.1: how many statements each kind takes: each time one is begun counts.
func TestBegun(t *testing.T) {
	for _, c := range []struct {
		body, levels string
		begun        int
	}{
		{"", "ppp", 0},
		{"x = 1;", "ppp", 1},
		{"r[0] = (1 + (2 + (3 + n)));", "ppp", 1},
		{"x = 1; y = 2; z = 3;", "ppp", 3},
		{"if n { }", "ppp", 1},
		{"if n { x = k; } else { x = 1; y = k; }", "ssp", 4},
		{"if 1 { } else { x = 1; }", "ppp", 2},
		{"if n { if n { x = 1; } }", "ppp", 3},
		{"none();", "ppp", 1},
		{"x = open(n); y, z = both(1, k);", "psp", 2},
		{"while 0 { none(); }", "ppp", 2},
	} {
		bodyBegun(t, c.body, c.levels, c.begun)
	}
	p := program(t, "fn f(x) -> x { x = 1; if x { x = 2; } } fn g(x) -> x { x = f(x); x = f(x); } fn h(x) -> x { if x { x = g(x); } x = f(1); }")
	want(t, "calls", p, "p")
	wantBegun(t, "calls", p, 1+(1+2*(1+3))+(1+3))
	p = program(t, "fn f(k secret) -> x { var x; var y; while y { while 1 { x = k; } } } fn g(k secret) -> a { var a; var n; while n { a = f(k); } }")
	want(t, "loops in calls in loops", p, "s")
	wantBegun(t, "loops in calls in loops", p, 1+2*(1+6))
}

// P9.1: just MaxSize statements, and one more, by loops within loops.
func TestLoopsToTheEnd(t *testing.T) {
	// Each loop goes round four times, from public words each time.
	text := func(n int) string {
		inner := "a = 0; b = 0; c = 0; while 1 { c = b; b = a; a = k; " + strings.Repeat("o = 1; ", n) + "}"
		outer := "d = 0; e = 0; f = 0; while 1 { " + inner + " f = e; e = d; d = k; }"
		return "fn main(k secret) { var a; var b; var c; var d; var e; var f; var o; " + outer + " }"
	}
	const most = 4091
	for _, n := range []int{0, 1, most - 1} {
		p := program(t, text(n))
		want(t, fmt.Sprint("loops, of ", n), p, "")
		wantBegun(t, fmt.Sprint("loops, of ", n), p, 3+1+4*(3+1+4*(3+n)+3))
	}
	p := program(t, text(most))
	want(t, "loops", p, "")
	last := &p.Funcs[0]
	last.Body = append(last.Body, set("o", word(1)))
	want(t, "loops, and one more behind them", p, many)
	p = program(t, text(most))
	last = &p.Funcs[0]
	last.Body = append(stmts{set("o", word(1))}, last.Body...)
	want(t, "loops, and one more ahead of them", p, many)
	want(t, "loops, and one more within", program(t, text(most+1)), many)
}

// doubled is a program of functions each of which calls the one ahead of it twice; in the first one is body.
func doubled(n int, body ...api.Stmt) api.Program {
	var p api.Program
	for i := range n {
		f := api.Func{Name: fmt.Sprint("f", i), Vars: []api.Var{reg("x"), reg("y")}, Body: body}
		if i > 0 {
			of := fmt.Sprint("f", i-1)
			f.Body = stmts{call(of, nil), call(of, nil)}
		}
		p.Funcs = append(p.Funcs, f)
	}
	return p
}

// P9.1: just MaxSize statements, and one more, by calls.
func TestCallsToTheEnd(t *testing.T) {
	// With an empty first one the last of n takes 2^n - 2.
	want(t, "65534, by 16", doubled(16), "")
	want(t, "far too many, by 17", doubled(17), many)
	want(t, "far too many, by 32", doubled(32), many)
	one := set("x", word(1))
	for i, levels := range []string{"", "", "", many, many} {
		p := doubled(16)
		p.Funcs[15].Body = append(p.Funcs[15].Body, slices.Repeat(stmts{one}, i)...)
		want(t, fmt.Sprint("65534 and ", i, " more"), p, levels)
		p = doubled(16)
		p.Funcs[15].Body = append(slices.Repeat(stmts{one}, i), p.Funcs[15].Body...)
		want(t, fmt.Sprint(i, " more and 65534"), p, levels)
	}
	// One more in the first function is far more in all.
	want(t, "each with one", doubled(15, one), "")
	want(t, "each with one, by 16", doubled(16, one), many)
}

// wrongs are statements of a function with a secret word k, a word x, and a public array s, in which its secrets are not kept.
func wrongs() map[string]api.Stmt {
	return map[string]api.Stmt{
		"a branch":               {Kind: api.StIf, E: name("k")},
		"a loop":                 {Kind: api.StWhile, E: name("k")},
		"a place that is put to": put("s", name("k"), word(1)),
		"a secret that is put":   put("s", word(0), name("k")),
		"a place that is read":   set("x", index("s", name("k"))),
		"a call":                 call("open", nil, name("k")),
		"a call of more":         call("into", nil, name("k")),
	}
}

// P9.1: ErrMany and ErrSecret: the first one that is met.
func TestFirstMet(t *testing.T) {
	const text = "fn open(p) { } fn into(p) { p = 1; } fn f(k secret) { var x; stack s 2; "
	for what, wrong := range wrongs() {
		p := program(t, text+"}")
		p.Funcs[2].Body = stmts{wrong}
		for n, levels := range map[int]string{0: refused, 65534: refused, 65535: refused, 65536: many, 70000: many, 131071: many} {
			want(t, fmt.Sprint(n, " ahead of ", what), laidAhead(p, n), levels)
		}
		// In a function that is called.
		p.Funcs = append(p.Funcs, api.Func{Name: "g", Body: stmts{call("f", nil, word(1))}})
		for n, levels := range map[int]string{0: refused, 65534: refused, 65535: many, 65536: many} {
			want(t, fmt.Sprint(n, " ahead of a call with ", what), laidAhead(p, n), levels)
		}
		// Ahead of, and behind, far too many.
		p = laidAhead(program(t, text+"}"), 2*api.MaxSize)
		last := &p.Funcs[len(p.Funcs)-1]
		far := last.Body
		last.Body = slices.Concat(stmts{wrong}, far)
		want(t, what+", ahead of far too many", p, refused)
		last.Body = slices.Concat(far, stmts{wrong})
		want(t, what+", behind far too many", p, many)
	}
}

// P9.1: a call's Args, and what its Params may get, are asked ahead of its function; a condition ahead of what it is for; a Body ahead of its Else; a round behind the ones ahead of it.
func TestAheadOfParts(t *testing.T) {
	for _, c := range []struct {
		ahead        int
		body, levels string
	}{
		{65534, "f(1, 2);", ""},
		{65535, "f(1, 2);", many},
		{65536, "f(1, 2);", many},
		{65535, "f(k, 2);", refused},
		{65535, "f(1, s[k]);", refused},
		{65535, "f(s[k], 2);", refused},
		{65535, "f(1, k);", many},
		{65536, "f(k, 2);", many},
		{65536, "f(s[k], 2);", many},
		{65535, "if k { x = 1; }", refused},
		{65535, "while k { x = 1; }", refused},
		{65535, "while s[k] { x = 1; }", refused},
		{65535, "while 1 { x = 1; }", many},
		{65535, "for i 0 2 { x = 1; }", many},
		{65534, "for i 0 2 { x = 1; }", ""},
		{65533, "if 1 { x = 1; if k { } } else { x = 1; x = 1; x = 1; }", refused},
		{65534, "if 1 { x = 1; if k { } } else { x = 1; x = 1; x = 1; }", many},
		{65534, "if 1 { if k { } } else { x = 1; }", refused},
		{65533, "if 1 { x = 1; } else { if k { } }", refused},
		{65534, "if 1 { x = 1; } else { if k { } }", many},
		{65531, "while 1 { if x { } y = 1; x = k; }", refused},
		{65532, "while 1 { if x { } y = 1; x = k; }", many},
		{65531, "for i 0 0 { if x { } y = 1; x = k; }", refused},
		{65532, "for i 0 0 { if x { } y = 1; x = k; }", many},
		// A condition is no statement: it is asked where no more may be begun.
		{65534, "while x { x = k; }", refused},
		{65535, "while x { x = k; }", many},
	} {
		p := program(t, "fn f(p, q secret) { p = 1; } fn g(k secret) { var x; var y; var i; stack s 2; "+c.body+" }")
		want(t, fmt.Sprint(c.ahead, " ahead of ", c.body), laidAhead(p, c.ahead), c.levels)
	}
}

// P0.7, P0.8: however large expressions are, and however often they are gone through, it comes to an end soon.
func TestLargeAndOften(t *testing.T) {
	large := name("x")
	for range 13 {
		large = op(api.OpAdd, large, op(api.OpXor, name("y"), large))
	}
	want(t, "a large one", doubled(15, set("y", large)), "")
	large = index("a", large)
	p := doubled(15, set("y", large))
	p.Regions = []api.Region{{Name: "a", Size: 512}}
	want(t, "a large place", p, "")
}
