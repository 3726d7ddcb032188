package inline_test

import (
	"cmp"
	"fmt"
	"reflect"
	"slices"
	"strings"
	"testing"

	"muffle/api"
	"muffle/inline"
	"muffle/leak"
	"muffle/parse"
	"muffle/pretty"
	"muffle/scope"
)

type (
	exprs = []api.Expr
	stmts = []api.Stmt
)

func word(x uint64) api.Expr {
	return api.Expr{Op: api.OpConst, Word: x}
}

func name(s string) api.Expr {
	return api.Expr{Op: api.OpVar, Name: s}
}

func index(s string, at api.Expr) api.Expr {
	return api.Expr{Op: api.OpIndex, Name: s, Args: exprs{at}}
}

func op(o api.Op, args ...api.Expr) api.Expr {
	return api.Expr{Op: o, Args: args}
}

func set(s string, e api.Expr) api.Stmt {
	return api.Stmt{Kind: api.StSet, Name: s, E: e}
}

func when(e api.Expr, body ...api.Stmt) api.Stmt {
	return api.Stmt{Kind: api.StIf, E: e, Body: body}
}

func rounds(s string, low, high uint64, body ...api.Stmt) api.Stmt {
	return api.Stmt{Kind: api.StFor, Name: s, Low: low, High: high, Body: body}
}

func call(s string, names []string, args ...api.Expr) api.Stmt {
	return api.Stmt{Kind: api.StCall, Name: s, Names: names, Args: args}
}

func reg(s string) api.Var {
	return api.Var{Name: s, Kind: api.VarReg}
}

// program is a text's, which may be.
func program(t *testing.T, text string) api.Program {
	t.Helper()
	p, fault := parse.Parse(text)
	if fault != (api.Fault{}) {
		t.Fatalf("%v in %s", fault, text)
	}
	if errno := scope.May(p); errno != api.OK {
		t.Fatalf("%v of %s", errno, text)
	}
	return p
}

func expr(t *testing.T, text string) api.Expr {
	t.Helper()
	e, fault := parse.Expr(text)
	if fault != (api.Fault{}) {
		t.Fatalf("%v in %s", fault, text)
	}
	return e
}

// What terms are told as.
const (
	same = "= "
	// set0 is a line without picks.
	set0 = "() "
)

// tellTerms is terms as a text: = of TermSame, the others by their kind's name, their lines in parentheses, their Subs in braces.
// Of an item that is picked it tells the number, of a word that, behind a '#'; what has parts that its kind does not use is told in full.
func tellTerms(l []api.Term) string {
	kinds := map[api.TermKind]string{api.TermSame: "=", api.TermLines: "lines", api.TermIf: "if", api.TermLoop: "while", api.TermEach: "each", api.TermCall: "call"}
	var b strings.Builder
	for _, x := range l {
		s, is := kinds[x.Kind]
		if !is || x.Taken {
			s = fmt.Sprintf("%+v", x)
		}
		fmt.Fprint(&b, s)
		for _, line := range x.Lines {
			fmt.Fprint(&b, "(", tellPicks(line), ")")
		}
		for _, sub := range x.Subs {
			fmt.Fprint(&b, "{", tellTerms(sub), "}")
		}
		b.WriteByte(' ')
	}
	return strings.TrimSpace(b.String())
}

func tellPicks(l []api.Pick) string {
	var all []string
	for _, x := range l {
		switch x {
		case api.Pick{Kind: api.PickItem, Item: x.Item}:
			all = append(all, fmt.Sprint(x.Item))
		case api.Pick{Kind: api.PickWord, Word: x.Word}:
			all = append(all, fmt.Sprint("#", x.Word))
		default:
			all = append(all, fmt.Sprintf("%+v", x))
		}
	}
	return strings.Join(all, " ")
}

// tellVars is variables as a text: word, array or stack, the name, the Size, an '!' of a secret one.
func tellVars(l []api.Var) string {
	var all []string
	for _, v := range l {
		s := map[api.VarKind]string{api.VarReg: "word ", api.VarArray: "array ", api.VarStack: "stack "}[v.Kind] + v.Name
		if v.Size != 0 {
			s += fmt.Sprint(" ", v.Size)
		}
		if v.Secret {
			s += "!"
		}
		all = append(all, s)
	}
	return strings.Join(all, ", ")
}

// taken is what Program answers, which it makes in new memory of what is left as it was.
func taken(t *testing.T, what string, p api.Program) (api.Program, []api.Term, api.Errno) {
	t.Helper()
	// Some programs of the tests share lists within themselves.
	p = scope.Clone(p)
	was := scope.Clone(p)
	q, terms, errno := inline.Program(p)
	if !scope.Same(p, was) {
		t.Errorf("%s: what was handed in is changed", what)
	}
	if errno != api.OK && (!scope.Same(q, api.Program{}) || len(terms) > 0) {
		t.Errorf("%s: %v, and beside it %v, %v", what, errno, q, terms)
	}
	if !leak.Terms(terms) {
		t.Errorf("%s: terms that may not be: %s", what, tellTerms(terms))
	}
	wantApart(t, what, p, q, terms)
	return q, terms, errno
}

// wantResult wants a program, told as a text, and terms.
func wantResult(t *testing.T, text, result, terms string) {
	t.Helper()
	wantOf(t, text, program(t, text), program(t, result), terms)
}

func wantOf(t *testing.T, what string, p, result api.Program, terms string) {
	t.Helper()
	q, l, errno := taken(t, what, p)
	if errno != api.OK || !scope.Same(q, result) {
		got, _ := pretty.Text(q)
		other, _ := pretty.Text(result)
		t.Errorf("%s: %v\n%s, not\n%s", what, errno, got, other)
	}
	if got := tellTerms(l); got != terms {
		t.Errorf("%s: %s, not %s", what, got, terms)
	}
}

func wantErrno(t *testing.T, what string, p api.Program, want api.Errno) {
	t.Helper()
	if _, _, errno := taken(t, what, p); errno != want {
		t.Errorf("%s: %v, not %v", what, errno, want)
	}
}

func wantReached(t *testing.T, what string, p api.Program, want ...int) {
	t.Helper()
	was := scope.Clone(p)
	l, errno := inline.Reached(p)
	if errno != api.OK || !slices.Equal(l, want) || !scope.Same(p, was) {
		t.Errorf("%s: %v, %v, not %v", what, l, errno, want)
	}
}

func wantNames(t *testing.T, what string, p api.Program, want string) {
	t.Helper()
	was := scope.Clone(p)
	l, errno := inline.Names(p)
	if got := tellVars(l); errno != api.OK || got != want || !scope.Same(p, was) {
		t.Errorf("%s: %s, %v, not %s", what, got, errno, want)
	}
	wantApart(t, what, p, l)
}

func wantCalls(t *testing.T, what string, p api.Program, want int) {
	t.Helper()
	was := scope.Clone(p)
	n, errno := inline.Calls(p)
	if errno != api.OK || n != want || !scope.Same(p, was) {
		t.Errorf("%s: %d, %v, not %d", what, n, errno, want)
	}
}

func wantPlaces(t *testing.T, what string, p api.Program, f int, e api.Expr, want int) {
	t.Helper()
	was := scope.Clone(p)
	n, errno := inline.Places(p, f, e)
	if errno != api.OK || n != want || !scope.Same(p, was) {
		t.Errorf("%s in %d: %d, %v, not %d", what, f, n, errno, want)
	}
}

// wantApart wants that no two lists have any memory in common, with what is behind their ends.
func wantApart(t *testing.T, what string, all ...any) {
	t.Helper()
	type span struct{ low, high uintptr }
	var l []span
	var see func(v reflect.Value)
	see = func(v reflect.Value) {
		switch v.Kind() {
		case reflect.Slice:
			if v.Cap() > 0 {
				l = append(l, span{v.Pointer(), v.Pointer() + uintptr(v.Cap())*v.Type().Elem().Size()})
			}
			for i := range v.Len() {
				see(v.Index(i))
			}
		case reflect.Struct:
			for i := range v.NumField() {
				see(v.Field(i))
			}
		}
	}
	for _, x := range all {
		see(reflect.ValueOf(x))
	}
	slices.SortFunc(l, func(a, b span) int { return cmp.Compare(a.low, b.low) })
	for i := range max(1, len(l)) - 1 {
		if l[i].high > l[i+1].low {
			t.Errorf("%s: two lists have memory in common", what)
			return
		}
	}
}
