package pretty_test

import (
	"math/rand"
	"slices"
	"strings"
	"testing"

	"muffle/api"
	"muffle/pretty"
)

type line struct {
	tabs int
	text string
}

// P5.1: Lines, with tabs from 0 on, without these and without a byte 10.
func TestLines(t *testing.T) {
	x := name("x")
	l := stmts{
		when(x, stmts{call(nil, "f")}, stmts{while(op(api.OpLe, x, word(1)), rounds("i", 0, 4, put("r", word(1), x)))}),
		call([]string{"a", "b"}, "f", x, word(2)),
	}
	want := []line{
		{0, "if x {"}, {1, "f();"}, {0, "} else {"}, {1, "while (x <= 1) {"}, {2, "for i 0 4 {"}, {3, "r[1] = x;"}, {2, "}"}, {1, "}"}, {0, "}"}, {0, "a, b = f(x, 2);"},
	}
	var got []line
	for tabs, text := range pretty.Lines(l...) {
		got = append(got, line{tabs, text})
	}
	if !slices.Equal(got, want) {
		t.Errorf("%v; not %v", got, want)
	}
}

// wantNoLines wants statements to have no lines, however one goes over them.
func wantNoLines(t *testing.T, what string, l ...api.Stmt) {
	t.Helper()
	seq := pretty.Lines(l...)
	if seq == nil {
		t.Fatalf("%s: nothing to go over", what)
	}
	for range 2 {
		if got := gone(seq); len(got) > 0 {
			t.Errorf("%s: %q", what, got)
		}
	}
}

// P5.1: no lines, of none and of what can't be told, wherever that stands.
func TestNoLines(t *testing.T) {
	x := name("x")
	wantNoLines(t, "none")
	wantNoLines(t, "an empty list", stmts{}...)
	for what, bad := range map[string]api.Stmt{
		"a zero one": {}, "no kind": {Kind: 7, Name: "x"}, "no name": set("for", x), "no expression": {Kind: api.StSet, Name: "x"}, "a wrong expression": set("x", op(api.OpAdd, x)),
		"too much": {Kind: api.StCall, Name: "f", High: 1}, "too deep an expression": set("x", nots(63, x)), "a wrong argument": call(nil, "f", x, api.Expr{}),
	} {
		wantNoLines(t, what, bad)
		wantNoLines(t, what+" behind another one", set("x", x), bad)
		wantNoLines(t, what+" ahead of another one", bad, set("x", x))
		for way, wrap := range wraps() {
			wantNoLines(t, what+" by "+way, set("x", x), wrap(set("x", x), bad), set("x", x))
			wantNoLines(t, what+" deep by "+way, within(20, bad, wrap))
		}
	}
}

// P5.1: Lines is left at any time, and gone through again, in full; once within the other.
func TestLinesLeft(t *testing.T) {
	for _, f := range whole().Funcs {
		all := modelLines(f.Body, "")
		seq := pretty.Lines(f.Body...)
		for leave := range len(all) + 1 {
			var got []string
			for tabs, text := range seq {
				got = append(got, strings.Repeat("\t", tabs)+text)
				if len(got) > leave {
					break
				}
			}
			if !slices.Equal(got, all[:min(leave+1, len(all))]) {
				t.Errorf("left behind %d: %q", leave+1, got)
			}
			if again := gone(seq); !slices.Equal(again, all) {
				t.Errorf("again: %q", again)
			}
			calls := 0
			seq(func(int, string) bool {
				calls++
				return calls <= leave
			})
			if calls != min(leave+1, len(all)) {
				t.Errorf("goes on behind a false: %d, %d", calls, leave)
			}
		}
		n := 0
		for range seq {
			n += len(gone(seq))
		}
		if n != len(all)*len(all) {
			t.Error("once within the other:", n)
		}
	}
}

// P5.1: Lines are of what was handed in, whatever becomes of that later.
func TestLinesOfThen(t *testing.T) {
	l := whole().Funcs[2].Body
	want := modelLines(l, "")
	seq := pretty.Lines(l...)
	eachChange(&l, func(what string) {
		if got := gone(seq); !slices.Equal(got, want) {
			t.Fatalf("%s: %q", what, got)
		}
	})
	spoil(l)
	if got := gone(seq); !slices.Equal(got, want) {
		t.Errorf("all changed: %q", got)
	}
	l = whole().Funcs[2].Body
	var got []string
	for tabs, text := range pretty.Lines(l...) {
		got = append(got, strings.Repeat("\t", tabs)+text)
		spoil(l)
	}
	if !slices.Equal(got, want) {
		t.Errorf("changed meanwhile: %q", got)
	}
}

// spoil changes all lists of statements, from within.
func spoil(l stmts) {
	for i := range l {
		spoil(l[i].Body)
		spoil(l[i].Else)
		spoilExprs(l[i].E.Args)
		spoilExprs(l[i].A.Args)
		spoilExprs(l[i].Args)
		clear(l[i].Names)
		l[i] = api.Stmt{}
	}
}

func spoilExprs(l exprs) {
	for i := range l {
		spoilExprs(l[i].Args)
		l[i] = api.Expr{}
	}
}

// P5.1: a text's lines are those of Lines, with a tab more.
func TestLinesAndText(t *testing.T) {
	m := maker{rand.New(rand.NewSource(51))}
	for range 300 {
		l := m.stmts(5)
		text, errno := pretty.Text(program(l...))
		if errno == api.ErrLong {
			continue
		}
		want := "fn f() {\n"
		for tabs, line := range pretty.Lines(l...) {
			want += strings.Repeat("\t", tabs+1) + line + "\n"
		}
		if errno != api.OK || text != want+"}\n" {
			t.Errorf("%v, %q; not %q", errno, text, want)
		}
	}
}
