package unroll_test

import (
	"fmt"
	"slices"
	"testing"

	"muffle/api"
	"muffle/scope"
	"muffle/unroll"
)

// P11.2: each OpVar of the name is the number, wherever it stands.
func TestPut(t *testing.T) {
	for _, c := range []struct{ text, want string }{
		// A name that is not there.
		{"x = 1; s[j] = (x + 2); if j { } else { x = y; } while j { } for j 0 2 { x = j; }", "x = 1; s[j] = (x + 2); if j { } else { x = y; } while j { } for j 0 2 { x = j; }"},
		// One that is there: in each place of an expression, once and several times.
		{"x = i;", "x = 7;"},
		{"x = (i + (i * ~i));", "x = (7 + (7 * ~7));"},
		{"x = pick(i, -i, (y - i));", "x = pick(7, -7, (y - 7));"},
		{"x = s[i]; x = s[r[(i & 3)]];", "x = s[7]; x = s[r[(7 & 3)]];"},
		{"s[i] = 1; s[2] = i; s[s[i]] = (i - j);", "s[7] = 1; s[2] = 7; s[s[7]] = (7 - j);"},
		{"if i { x = i; } else { x = -i; }", "if 7 { x = 7; } else { x = -7; }"},
		{"while (x < i) { x = i; while i { s[i] = i; } }", "while (x < 7) { x = 7; while 7 { s[7] = 7; } }"},
		{"x, y = f(i, (i + j), s[i]);", "x, y = f(7, (7 + j), s[7]);"},
		// Names alone: of what is set, of arrays, of functions, of answers.
		{"i = j; i = i;", "i = j; i = 7;"},
		{"i[i] = i[i];", "i[7] = i[7];"},
		{"i = i(i); x, i = i();", "i = i(7); x, i = i();"},
		// Names that are like it.
		{"x = (i1 + (ii + i_));", "x = (i1 + (ii + i_));"},
		// Within loops of other names it is put, within its own it stays.
		{"for j 0 2 { x = i; for k 1 3 { x = (i + k); } }", "for j 0 2 { x = 7; for k 1 3 { x = (7 + k); } }"},
		{"for i 0 2 { x = i; }", "for i 0 2 { x = i; }"},
		{"x = i; for i 0 2 { x = i; } x = i;", "x = 7; for i 0 2 { x = i; } x = 7;"},
		{"for j 0 2 { x = i; for i 0 2 { x = i; } y = i; }", "for j 0 2 { x = 7; for i 0 2 { x = i; } y = 7; }"},
		{"for i 0 2 { for j 0 2 { x = (i + j); } if i { x = i; } else { s[i] = i; } while i { } x = f(i); }",
			"for i 0 2 { for j 0 2 { x = (i + j); } if i { x = i; } else { s[i] = i; } while i { } x = f(i); }"},
		{"if i { for i 0 1 { x = i; } x = i; } else { for i 3 3 { x = i; } x = i; }", "if 7 { for i 0 1 { x = i; } x = 7; } else { for i 3 3 { x = i; } x = 7; }"},
		{"for i 0 2 { for i 0 2 { x = i; } x = i; } x = i;", "for i 0 2 { for i 0 2 { x = i; } x = i; } x = 7;"},
		{"", ""},
	} {
		wantPut(t, c.text, "i", 7, list(t, c.text), list(t, c.want))
	}
}

// P11.2: any number, any name.
func TestPutNumbers(t *testing.T) {
	for _, n := range []uint64{0, 1, api.MaxSize, 1<<63 - 1, 1 << 63, 1<<64 - 1} {
		wantPut(t, fmt.Sprint(n), "x", n, stmts{set("x", op(api.OpAdd, name("x"), word(3)))}, stmts{set("x", op(api.OpAdd, word(n), word(3)))})
	}
	for _, s := range []string{"", "for", "x\x00", "\xff", "name_of_16_bytes", "a name that is far too long to be one"} {
		l := stmts{set("y", op(api.OpAdd, name(s), name("z"))), {Kind: api.StFor, Name: s, High: 1, Body: stmts{set("y", name(s))}}, {Kind: api.StIf, Name: s, E: name(s)}}
		want := stmts{set("y", op(api.OpAdd, word(5), name("z"))), l[1], {Kind: api.StIf, Name: s, E: word(5)}}
		wantPut(t, fmt.Sprintf("%q", s), s, 5, l, want)
	}
	// A part without anything has no name, but it is no OpVar.
	wantPut(t, "no name", "", 5, stmts{{}, {Kind: api.StWhile, Body: stmts{{}}}, set("", word(0))}, stmts{{}, {Kind: api.StWhile, Body: stmts{{}}}, set("", word(0))})
}

// P11.2: Put of no statements.
func TestPutNothing(t *testing.T) {
	if l := unroll.Put("i", 1); len(l) > 0 {
		t.Error(l)
	}
	if l := unroll.Put("", 0, stmts{}...); len(l) > 0 {
		t.Error(l)
	}
}

// P11.2, P0.8: statements that could be in no program.
func TestPutAnything(t *testing.T) {
	i, seven := name("i"), word(7)
	l := stmts{
		{Kind: 0, Name: "i", Names: []string{"i", "x"}, E: i, A: i, Args: exprs{i, op(api.OpNot, i, i)}, Low: 3, High: 1, Body: stmts{set("x", i)}, Else: stmts{set("y", i)}},
		{Kind: 99, Name: "i", E: i}, {Kind: -1, Else: stmts{{Kind: 77, A: i}}},
		{Kind: api.StFor, Name: "j", E: i, A: i, Args: exprs{i}, Low: 9, High: 1 << 63, Body: stmts{set("x", i)}, Else: stmts{set("y", i)}},
		{Kind: api.StFor, Name: "i", Low: 9, High: 1, Body: stmts{set("x", i)}},
		{Kind: api.StSet, Name: "x", E: api.Expr{Op: -5, Name: "i", Word: 1, Args: exprs{i, {Op: api.OpIndex, Name: "i"}, {Op: api.OpConst, Name: "i", Args: exprs{i}}}}},
	}
	want := stmts{
		{Kind: 0, Name: "i", Names: []string{"i", "x"}, E: seven, A: seven, Args: exprs{seven, op(api.OpNot, seven, seven)}, Low: 3, High: 1, Body: stmts{set("x", seven)}, Else: stmts{set("y", seven)}},
		{Kind: 99, Name: "i", E: seven}, {Kind: -1, Else: stmts{{Kind: 77, A: seven}}},
		{Kind: api.StFor, Name: "j", E: seven, A: seven, Args: exprs{seven}, Low: 9, High: 1 << 63, Body: stmts{set("x", seven)}, Else: stmts{set("y", seven)}},
		{Kind: api.StFor, Name: "i", Low: 9, High: 1, Body: stmts{set("x", i)}},
		{Kind: api.StSet, Name: "x", E: api.Expr{Op: -5, Name: "i", Word: 1, Args: exprs{seven, {Op: api.OpIndex, Name: "i"}, {Op: api.OpConst, Name: "i", Args: exprs{seven}}}}},
	}
	wantPut(t, "anything", "i", 7, l, want)
	wantPut(t, "an OpVar with more than it should have", "i", 7, stmts{set("x", api.Expr{Op: api.OpVar, Name: "i", Word: 4, Args: exprs{i}})}, stmts{set("x", seven)})
}

// P11.2, P0.8: what nests as deep as there may be anything: expressions, branches, loops of other names, and of this one.
func TestPutDeep(t *testing.T) {
	const deep = 1 << 16
	for what, nest := range map[string]func(s api.Stmt) api.Stmt{
		"an expression": func(s api.Stmt) api.Stmt { return set("x", op(api.OpNot, s.E)) },
		"branches":      func(s api.Stmt) api.Stmt { return when(name("x"), s) },
		"other ways":    func(s api.Stmt) api.Stmt { return api.Stmt{Kind: api.StIf, E: word(1), Else: stmts{s}} },
		"loops":         func(s api.Stmt) api.Stmt { return rounds("j", 0, 2, s) },
	} {
		l, want := set("x", name("i")), set("x", word(3))
		for range deep {
			l, want = nest(l), nest(want)
		}
		got := unroll.Put("i", 3, l)
		if !scope.Same(counting(got...), counting(want)) {
			t.Error(what)
		}
		own := rounds("i", 0, 2, l)
		if got := unroll.Put("i", 3, own); !scope.Same(counting(got...), counting(own)) {
			t.Error(what, "within a loop of that name")
		}
	}
}

// P11.2: what lies behind the ends of the lists that are handed in stays; and a list that is handed in as it is.
func TestPutBehindTheEnds(t *testing.T) {
	all := stmts{set("x", name("i")), set("y", name("i")), set("z", name("i"))}
	args := exprs{name("i"), name("i"), name("i")}
	all[0].E = api.Expr{Op: api.OpNot, Args: args[:1]}
	was := slices.Clone(all)
	got := unroll.Put("i", 4, all[:1]...)
	if !scope.Same(counting(got...), counting(set("x", op(api.OpNot, word(4))))) || !scope.Same(counting(all...), counting(was...)) || args[1].Name != "i" || args[0].Name != "i" {
		t.Error(got, all, args)
	}
	got = append(got, set("w", word(1)))
	got[0].E.Args = append(got[0].E.Args, word(1))
	if all[1].Name != "y" || args[1].Name != "i" {
		t.Error(all, args)
	}
}

// P11.2: Put of each round's number, one behind the other, is what is laid out.
func TestPutIsARound(t *testing.T) {
	body := list(t, "s[i] = (i + x); if (i < 2) { x = r[i]; } else { while (x < i) { x = (x + i); } }")
	var want stmts
	for n := range uint64(4) {
		want = append(want, unroll.Put("i", 2+n, body...)...)
	}
	wantOf(t, "four rounds", counting(rounds("i", 2, 6, body...)), counting(want...), "for{= if{=}{while{=}}}{= if{=}{while{=}}}{= if{=}{while{=}}}{= if{=}{while{=}}}")
}
