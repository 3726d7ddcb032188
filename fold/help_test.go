package fold_test

import (
	"cmp"
	"fmt"
	"maps"
	"reflect"
	"slices"
	"strings"
	"testing"

	"muffle/api"
	"muffle/fold"
	"muffle/leak"
	"muffle/parse"
	"muffle/pretty"
	"muffle/scope"
)

type (
	exprs = []api.Expr
	stmts = []api.Stmt
	known = map[string]uint64
)

func word(x uint64) api.Expr {
	return api.Expr{Op: api.OpConst, Word: x}
}

func name(s string) api.Expr {
	return api.Expr{Op: api.OpVar, Name: s}
}

func index(s string, at api.Expr) api.Expr {
	return api.Expr{Op: api.OpIndex, Name: s, Args: exprs{at}}
}

func op(o api.Op, args ...api.Expr) api.Expr {
	return api.Expr{Op: o, Args: args}
}

func set(s string, e api.Expr) api.Stmt {
	return api.Stmt{Kind: api.StSet, Name: s, E: e}
}

func put(s string, at, e api.Expr) api.Stmt {
	return api.Stmt{Kind: api.StPut, Name: s, A: at, E: e}
}

func when(e api.Expr, body ...api.Stmt) api.Stmt {
	return api.Stmt{Kind: api.StIf, E: e, Body: body}
}

func unless(e api.Expr, other ...api.Stmt) api.Stmt {
	return api.Stmt{Kind: api.StIf, E: e, Else: other}
}

func while(e api.Expr, body ...api.Stmt) api.Stmt {
	return api.Stmt{Kind: api.StWhile, E: e, Body: body}
}

func rounds(s string, low, high uint64, body ...api.Stmt) api.Stmt {
	return api.Stmt{Kind: api.StFor, Name: s, Low: low, High: high, Body: body}
}

func call(s string, names []string, args ...api.Expr) api.Stmt {
	return api.Stmt{Kind: api.StCall, Name: s, Names: names, Args: args}
}

func reg(s string) api.Var {
	return api.Var{Name: s, Kind: api.VarReg}
}

// alone is a program that does these statements, of a function with a parameter p and so many words, x0, x1 and so on.
func alone(words int, l ...api.Stmt) api.Program {
	f := api.Func{Name: "f", Params: []api.Var{reg("p")}, Body: l}
	for i := range words {
		f.Vars = append(f.Vars, reg(fmt.Sprint("x", i)))
	}
	return api.Program{Funcs: []api.Func{f}}
}

// program is a text's, which may be.
func program(t *testing.T, text string) api.Program {
	t.Helper()
	p, fault := parse.Parse(text)
	if fault != (api.Fault{}) {
		t.Fatalf("%v in %s", fault, text)
	}
	if errno := scope.May(p); errno != api.OK {
		t.Fatalf("%v of %s", errno, text)
	}
	return p
}

// list is a text's statements, be they in any program or not.
func list(t *testing.T, text string) stmts {
	t.Helper()
	l, fault := parse.Stmts(text)
	if fault != (api.Fault{}) {
		t.Fatalf("%v in %s", fault, text)
	}
	return l
}

// expr is a text's expression.
func expr(t *testing.T, text string) api.Expr {
	t.Helper()
	e, fault := parse.Expr(text)
	if fault != (api.Fault{}) {
		t.Fatalf("%v in %s", fault, text)
	}
	return e
}

// tellTerms is terms as a text: = of TermSame, yes and no of TermTaken, the others by their kind's name, their Subs in braces; what has parts that its kind does not use is told in full.
func tellTerms(l []api.Term) string {
	kinds := map[api.TermKind]string{api.TermSame: "=", api.TermIf: "if", api.TermTaken: "no", api.TermLoop: "while"}
	var b strings.Builder
	for i, x := range l {
		s, is := kinds[x.Kind]
		switch {
		case !is || len(x.Lines) > 0 || x.Taken && x.Kind != api.TermTaken:
			s = fmt.Sprintf("%+v", x)
		case x.Taken:
			s = "yes"
		}
		if i > 0 {
			b.WriteByte(' ')
		}
		b.WriteString(s)
		for _, sub := range x.Subs {
			b.WriteString("{" + tellTerms(sub) + "}")
		}
	}
	return b.String()
}

func tellAll(all [][]api.Term) []string {
	var l []string
	for _, terms := range all {
		l = append(l, tellTerms(terms))
	}
	return l
}

func tell(p api.Program) string {
	text, errno := pretty.Text(p)
	if errno != api.OK {
		return fmt.Sprint(errno, p)
	}
	return text
}

// folded is what Program answers, which it makes in new memory of what is left as it was.
func folded(t *testing.T, what string, p api.Program) (api.Program, []api.Term, api.Errno) {
	t.Helper()
	// Some programs of the tests share lists within themselves.
	p = scope.Clone(p)
	was := scope.Clone(p)
	q, terms, errno := fold.Program(p)
	if !scope.Same(p, was) {
		t.Errorf("%s: what was handed in is changed", what)
	}
	if errno != api.OK && (!scope.Same(q, api.Program{}) || len(terms) > 0) {
		t.Errorf("%s: %v, and beside it %v, %v", what, errno, q, terms)
	}
	if errno == api.OK && (scope.May(q) != api.OK || !leak.Terms(terms)) {
		t.Errorf("%s: no program, or no terms: %v, %v", what, q, terms)
	}
	wantApart(t, what, p, q, terms)
	return q, terms, errno
}

// foldedAll is what Rounds answers, likewise.
func foldedAll(t *testing.T, what string, p api.Program) (api.Program, [][]api.Term, api.Errno) {
	t.Helper()
	p = scope.Clone(p)
	was := scope.Clone(p)
	q, all, errno := fold.Rounds(p)
	if !scope.Same(p, was) {
		t.Errorf("%s: what was handed in to Rounds is changed", what)
	}
	if errno != api.OK && (!scope.Same(q, api.Program{}) || len(all) > 0) {
		t.Errorf("%s: of Rounds %v, and beside it %v, %v", what, errno, q, all)
	}
	if errno == api.OK && scope.May(q) != api.OK {
		t.Errorf("%s: of Rounds no program: %v", what, q)
	}
	for _, terms := range all {
		if !leak.Terms(terms) {
			t.Errorf("%s: of Rounds no terms: %v", what, terms)
		}
	}
	wantApart(t, what+", of Rounds", p, q, all)
	return q, all, errno
}

// head begins a program with a region, whose function has parameters, words that are known to be 0, and arrays.
const head = "region k 64 4; fn f(p, q secret) -> y, x { var x; var y; var z; array r 4; stack s 4; "

// wantBody wants of that function with this Body, told as a text, a result with that one, and terms.
func wantBody(t *testing.T, body, result, terms string) {
	t.Helper()
	wantResult(t, head+body+" }", head+result+" }", terms)
}

// wantStays wants of that function with this Body that nothing of it changes.
func wantStays(t *testing.T, body, terms string) {
	t.Helper()
	wantBody(t, body, body, terms)
	wantRounds(t, head+body+" }", program(t, head+body+" }"), program(t, head+body+" }"))
}

func wantResult(t *testing.T, text, result, terms string) {
	t.Helper()
	wantOf(t, text, program(t, text), program(t, result), terms)
}

func wantOf(t *testing.T, what string, p, result api.Program, terms string) {
	t.Helper()
	q, l, errno := folded(t, what, p)
	if errno != api.OK || !scope.Same(q, result) {
		t.Errorf("%s: %v\n%s, not\n%s", what, errno, tell(q), tell(result))
	}
	if got := tellTerms(l); got != terms {
		t.Errorf("%s: %s, not %s", what, got, terms)
	}
}

// wantRounds wants a result of Rounds, and each round's terms.
func wantRounds(t *testing.T, what string, p, result api.Program, terms ...string) {
	t.Helper()
	q, all, errno := foldedAll(t, what, p)
	if errno != api.OK || !scope.Same(q, result) {
		t.Errorf("%s: of Rounds %v\n%s, not\n%s", what, errno, tell(q), tell(result))
	}
	if got := tellAll(all); !slices.Equal(got, terms) {
		t.Errorf("%s: of Rounds %q, not %q", what, got, terms)
	}
}

// wantErrno wants that error of both of the functions that tell one.
func wantErrno(t *testing.T, what string, p api.Program, want api.Errno) {
	t.Helper()
	if _, _, errno := folded(t, what, p); errno != want {
		t.Errorf("%s: %v, not %v", what, errno, want)
	}
	if _, _, errno := foldedAll(t, what, p); errno != want {
		t.Errorf("%s: of Rounds %v, not %v", what, errno, want)
	}
}

func inStmts(l ...api.Stmt) api.Program {
	return api.Program{Funcs: []api.Func{{Body: l}}}
}

func sameExpr(a, b api.Expr) bool {
	return scope.Same(inStmts(set("x", a)), inStmts(set("x", b)))
}

// wantExpr wants an expression in new memory, made of one that stays as it was, as does what is known.
func wantExpr(t *testing.T, what string, e api.Expr, k known, want api.Expr) {
	t.Helper()
	e = scope.Clone(inStmts(set("x", e))).Funcs[0].Body[0].E
	was, knew := scope.Clone(inStmts(set("x", e))).Funcs[0].Body[0].E, maps.Clone(k)
	got := fold.Expr(e, k)
	if !sameExpr(e, was) || !maps.Equal(k, knew) || (k == nil) != (knew == nil) {
		t.Errorf("%s: what was handed in is changed: %v, %v", what, e, k)
	}
	if !sameExpr(got, want) {
		t.Errorf("%s: %v, not %v", what, got, want)
	}
	wantApart(t, what, e, got)
}

func wantFolded(t *testing.T, e string, k known, want string) {
	t.Helper()
	wantExpr(t, e, expr(t, e), k, expr(t, want))
}

func wantSets(t *testing.T, what string, l stmts, want ...string) {
	t.Helper()
	was := scope.Clone(inStmts(l...))
	if got := fold.Sets(l...); !slices.Equal(got, want) {
		t.Errorf("%s: %q, not %q", what, got, want)
	}
	if !scope.Same(inStmts(l...), was) {
		t.Errorf("%s: what was handed in is changed", what)
	}
}

// wantApart wants that no two lists have any memory in common, with what is behind their ends.
func wantApart(t *testing.T, what string, all ...any) {
	t.Helper()
	type span struct{ low, high uintptr }
	var l []span
	var see func(v reflect.Value)
	see = func(v reflect.Value) {
		switch v.Kind() {
		case reflect.Slice:
			if v.Cap() > 0 {
				l = append(l, span{v.Pointer(), v.Pointer() + uintptr(v.Cap())*v.Type().Elem().Size()})
			}
			for i := range v.Len() {
				see(v.Index(i))
			}
		case reflect.Struct:
			for i := range v.NumField() {
				see(v.Field(i))
			}
		}
	}
	for _, x := range all {
		see(reflect.ValueOf(x))
	}
	slices.SortFunc(l, func(a, b span) int { return cmp.Compare(a.low, b.low) })
	for i := range max(1, len(l)) - 1 {
		if l[i].high > l[i+1].low {
			t.Errorf("%s: two lists have memory in common", what)
			return
		}
	}
}
