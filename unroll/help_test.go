package unroll_test

import (
	"cmp"
	"fmt"
	"reflect"
	"slices"
	"strings"
	"testing"

	"muffle/api"
	"muffle/leak"
	"muffle/parse"
	"muffle/pretty"
	"muffle/scope"
	"muffle/unroll"
)

type (
	exprs = []api.Expr
	stmts = []api.Stmt
)

func word(x uint64) api.Expr {
	return api.Expr{Op: api.OpConst, Word: x}
}

func name(s string) api.Expr {
	return api.Expr{Op: api.OpVar, Name: s}
}

func index(s string, at api.Expr) api.Expr {
	return api.Expr{Op: api.OpIndex, Name: s, Args: exprs{at}}
}

func op(o api.Op, args ...api.Expr) api.Expr {
	return api.Expr{Op: o, Args: args}
}

func set(s string, e api.Expr) api.Stmt {
	return api.Stmt{Kind: api.StSet, Name: s, E: e}
}

func when(e api.Expr, body ...api.Stmt) api.Stmt {
	return api.Stmt{Kind: api.StIf, E: e, Body: body}
}

func while(e api.Expr, body ...api.Stmt) api.Stmt {
	return api.Stmt{Kind: api.StWhile, E: e, Body: body}
}

func rounds(s string, low, high uint64, body ...api.Stmt) api.Stmt {
	return api.Stmt{Kind: api.StFor, Name: s, Low: low, High: high, Body: body}
}

func call(s string, names []string, args ...api.Expr) api.Stmt {
	return api.Stmt{Kind: api.StCall, Name: s, Names: names, Args: args}
}

func reg(s string) api.Var {
	return api.Var{Name: s, Kind: api.VarReg}
}

// program is a text's, which may be.
func program(t *testing.T, text string) api.Program {
	t.Helper()
	p, fault := parse.Parse(text)
	if fault != (api.Fault{}) {
		t.Fatalf("%v in %s", fault, text)
	}
	if errno := scope.May(p); errno != api.OK {
		t.Fatalf("%v of %s", errno, text)
	}
	return p
}

// list is a text's statements, be they in any program or not.
func list(t *testing.T, text string) stmts {
	t.Helper()
	l, fault := parse.Stmts(text)
	if fault != (api.Fault{}) {
		t.Fatalf("%v in %s", fault, text)
	}
	return l
}

// counting is a program with the words i to n, x to z, an array r and a stack s of 4, that does these statements.
func counting(l ...api.Stmt) api.Program {
	f := api.Func{Name: "f", Body: l}
	for _, s := range "ijklmnxyz" {
		f.Vars = append(f.Vars, reg(string(s)))
	}
	f.Vars = append(f.Vars, api.Var{Name: "r", Kind: api.VarArray, Size: 4}, api.Var{Name: "s", Kind: api.VarStack, Size: 4})
	return api.Program{Funcs: []api.Func{f}}
}

// tellTerms is terms as a text: = of TermSame, the others by their kind's name, their Subs in braces; what has parts that its kind does not use is told in full.
func tellTerms(l []api.Term) string {
	kinds := map[api.TermKind]string{api.TermSame: "=", api.TermIf: "if", api.TermLoop: "while", api.TermFor: "for"}
	var b strings.Builder
	for i, x := range l {
		s, is := kinds[x.Kind]
		if !is || x.Taken || len(x.Lines) > 0 {
			s = fmt.Sprintf("%+v", x)
		}
		if i > 0 {
			b.WriteByte(' ')
		}
		b.WriteString(s)
		for _, sub := range x.Subs {
			b.WriteString("{" + tellTerms(sub) + "}")
		}
	}
	return b.String()
}

// laid is what Program answers, which it makes in new memory of what is left as it was.
func laid(t *testing.T, what string, p api.Program) (api.Program, []api.Term, api.Errno) {
	t.Helper()
	// Some programs of the tests share lists within themselves.
	p = scope.Clone(p)
	was := scope.Clone(p)
	q, terms, errno := unroll.Program(p)
	if !scope.Same(p, was) {
		t.Errorf("%s: what was handed in is changed", what)
	}
	if errno != api.OK && (!scope.Same(q, api.Program{}) || len(terms) > 0) {
		t.Errorf("%s: %v, and beside it %v, %v", what, errno, q, terms)
	}
	if errno == api.OK && (scope.May(q) != api.OK || scope.Form(q).Fors) {
		t.Errorf("%s: no program without loops of a number of rounds: %v", what, q)
	}
	wantApart(t, what, p, q, terms)
	return q, terms, errno
}

// wantResult wants a program, told as a text, and terms.
func wantResult(t *testing.T, text, result, terms string) {
	t.Helper()
	wantOf(t, text, program(t, text), program(t, result), terms)
}

func wantOf(t *testing.T, what string, p, result api.Program, terms string) {
	t.Helper()
	q, l, errno := laid(t, what, p)
	if errno != api.OK || !scope.Same(q, result) {
		got, _ := pretty.Text(q)
		other, _ := pretty.Text(result)
		t.Errorf("%s: %v\n%s, not\n%s", what, errno, got, other)
	}
	if !leak.Terms(l) {
		t.Errorf("%s: terms that may not be: %s", what, tellTerms(l))
	}
	if got := tellTerms(l); got != terms {
		t.Errorf("%s: %s, not %s", what, got, terms)
	}
}

// head begins a program with a region, whose function has parameters, words and arrays.
const head = "region k 64 4; fn f(p, q secret) -> y, x { var x; var y; var z; var i; var j; array r 4; stack s 4; "

// wantBody wants of that function with this Body, told as a text, a result with that one, and terms.
func wantBody(t *testing.T, body, result, terms string) {
	t.Helper()
	wantResult(t, head+body+" }", head+result+" }", terms)
}

func wantErrno(t *testing.T, what string, p api.Program, want api.Errno) {
	t.Helper()
	if _, _, errno := laid(t, what, p); errno != want {
		t.Errorf("%s: %v, not %v", what, errno, want)
	}
}

func wantRounds(t *testing.T, what string, p api.Program, want int) {
	t.Helper()
	was := scope.Clone(p)
	n, errno := unroll.Rounds(p)
	if errno != api.OK || n != want || !scope.Same(p, was) {
		t.Errorf("%s: %d, %v, not %d", what, n, errno, want)
	}
}

// wantPut wants statements in new memory, made of some that stay as they were.
func wantPut(t *testing.T, what, s string, n uint64, l, want stmts) {
	t.Helper()
	in := func(l stmts) api.Program { return api.Program{Funcs: []api.Func{{Body: l}}} }
	l = scope.Clone(in(l)).Funcs[0].Body
	was := scope.Clone(in(l))
	got := unroll.Put(s, n, l...)
	if !scope.Same(in(l), was) {
		t.Errorf("%s: what was handed in is changed", what)
	}
	if !scope.Same(in(got), in(want)) {
		t.Errorf("%s: %v, not %v", what, got, want)
	}
	wantApart(t, what, l, got)
}

// wantApart wants that no two lists have any memory in common, with what is behind their ends.
func wantApart(t *testing.T, what string, all ...any) {
	t.Helper()
	type span struct{ low, high uintptr }
	var l []span
	var see func(v reflect.Value)
	see = func(v reflect.Value) {
		switch v.Kind() {
		case reflect.Slice:
			if v.Cap() > 0 {
				l = append(l, span{v.Pointer(), v.Pointer() + uintptr(v.Cap())*v.Type().Elem().Size()})
			}
			for i := range v.Len() {
				see(v.Index(i))
			}
		case reflect.Struct:
			for i := range v.NumField() {
				see(v.Field(i))
			}
		}
	}
	for _, x := range all {
		see(reflect.ValueOf(x))
	}
	slices.SortFunc(l, func(a, b span) int { return cmp.Compare(a.low, b.low) })
	for i := range max(1, len(l)) - 1 {
		if l[i].high > l[i+1].low {
			t.Errorf("%s: two lists have memory in common", what)
			return
		}
	}
}
