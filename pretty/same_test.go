package pretty_test

import (
	"math/rand"
	"reflect"
	"testing"

	"muffle/api"
	"muffle/pretty"
)

// modelSame tells whether two values are the same; nil and empty lists are one.
func modelSame(a, b reflect.Value) bool {
	switch a.Kind() {
	case reflect.Slice:
		if a.Len() != b.Len() {
			return false
		}
		for i := range a.Len() {
			if !modelSame(a.Index(i), b.Index(i)) {
				return false
			}
		}
		return true
	case reflect.Struct:
		for i := range a.NumField() {
			if !modelSame(a.Field(i), b.Field(i)) {
				return false
			}
		}
		return true
	}
	return a.Equal(b)
}

// emptied has an empty list wherever there is nil, and nil wherever there is an empty one.
func emptied(v reflect.Value) {
	switch v.Kind() {
	case reflect.Slice:
		for i := range v.Len() {
			emptied(v.Index(i))
		}
		if v.IsNil() {
			v.Set(reflect.MakeSlice(v.Type(), 0, 1))
		} else if v.Len() == 0 {
			v.SetZero()
		}
	case reflect.Struct:
		for i := range v.NumField() {
			emptied(v.Field(i))
		}
	}
}

// P5.3: nil and empty lists are one, of all that is asked.
func TestNilAndEmpty(t *testing.T) {
	a, b := whole(), whole()
	a.Funcs[2].Body = append(a.Funcs[2].Body, api.Stmt{})
	b.Funcs[2].Body = append(b.Funcs[2].Body, api.Stmt{})
	emptied(reflect.ValueOf(&b).Elem())
	if reflect.DeepEqual(a, b) || !pretty.Same(a, b) || !pretty.Same(b, a) {
		t.Error("Same")
	}
	for i := range a.Funcs {
		if !pretty.SameStmts(a.Funcs[i].Body, b.Funcs[i].Body) {
			t.Error("SameStmts")
		}
	}
	if !pretty.SameExpr(api.Expr{}, api.Expr{Args: exprs{}}) || !pretty.SameExpr(op(3, api.Expr{Args: exprs{}}), op(3, api.Expr{})) || pretty.SameExpr(api.Expr{}, api.Expr{Args: exprs{{}}}) {
		t.Error("SameExpr")
	}
	if !pretty.SameStmts(nil, stmts{}) || !pretty.SameStmts(stmts{}, nil) || !pretty.SameStmts(nil, nil) || pretty.SameStmts(nil, stmts{{}}) || pretty.SameStmts(stmts{{}}, stmts{}) {
		t.Error("SameStmts of none")
	}
	if !pretty.Same(api.Program{}, api.Program{Regions: []api.Region{}, Funcs: []api.Func{}}) || pretty.Same(api.Program{}, api.Program{Funcs: []api.Func{{}}}) {
		t.Error("Same of none")
	}
	if text, errno := pretty.Text(b); errno != api.ErrArg {
		t.Error(text, errno)
	}
	b.Funcs[2].Body = b.Funcs[2].Body[:len(b.Funcs[2].Body)-1]
	wantText(t, b, wholeText)
}

// P5.3: two that differ in one place are not the same, whether they can be told or not.
func TestNotSame(t *testing.T) {
	x := name("x")
	e := func() api.Expr {
		return api.Expr{Op: -7, Word: 9, Name: "for", Args: exprs{x, {}, op(api.OpPick, x, index("r", word(1)))}}
	}
	changed := e()
	eachChange(&changed, func(what string) {
		if pretty.SameExpr(changed, e()) || pretty.SameExpr(e(), changed) || !pretty.SameExpr(changed, changed) {
			t.Error("SameExpr, where", what)
		}
	})
	inner := func() api.Stmt {
		return api.Stmt{Kind: 9, Name: "y", Names: []string{"a", ""}, E: e(), A: e(), Args: exprs{e(), x}, Low: 3, High: 2}
	}
	l := func() stmts {
		s := inner()
		s.Body, s.Else = stmts{inner(), set("x", x)}, stmts{set("y", x), inner()}
		return stmts{set("x", x), s}
	}
	mine := l()
	eachChange(&mine, func(what string) {
		if pretty.SameStmts(mine, l()) || pretty.SameStmts(l(), mine) || !pretty.SameStmts(mine, mine) {
			t.Error("SameStmts, where", what)
		}
	})
	if !pretty.SameExpr(changed, e()) || !pretty.SameStmts(mine, l()) {
		t.Error("the same are not")
	}
	if pretty.SameStmts(stmts{set("x", x), set("y", x)}, stmts{set("y", x), set("x", x)}) || pretty.SameExpr(op(6, x, word(1)), op(6, word(1), x)) {
		t.Error("their order is not asked")
	}
}

// P5.3: some programs, held against each other.
func TestSameLikeModel(t *testing.T) {
	m := maker{rand.New(rand.NewSource(53))}
	var l []api.Program
	for range 60 {
		l = append(l, m.program())
	}
	l = append(l, l[:20]...)
	for _, a := range l {
		for _, b := range l {
			if got, want := pretty.Same(a, b), modelSame(reflect.ValueOf(a), reflect.ValueOf(b)); got != want {
				t.Errorf("Same: %v; %v, %v", got, a, b)
			}
		}
	}
}
