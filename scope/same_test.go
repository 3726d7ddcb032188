package scope_test

import (
	"math/rand"
	"reflect"
	"testing"

	"muffle/api"
	"muffle/scope"
)

// anything is a program that has something in every field that there is.
func anything() api.Program {
	e := func(deep exprs) api.Expr { return api.Expr{Op: -7, Word: 9, Name: "for", Args: deep} }
	full := func() api.Expr {
		return e(exprs{e(nil), {}, e(exprs{e(exprs{name("x")}), op(api.OpPick, name("x"))})})
	}
	s := func(body, other stmts) api.Stmt {
		return api.Stmt{Kind: 9, Name: "y", Names: []string{"a", "", "a"}, E: full(), A: full(), Args: exprs{full(), {}}, Low: 3, High: 2, Body: body, Else: other}
	}
	return api.Program{
		Regions: []api.Region{{Name: "", Addr: -1, Size: -2, Secret: true}, {Name: "x"}},
		Funcs: []api.Func{
			{},
			{Name: "x", Params: vars{{Name: "p", Kind: 7, Size: -1, Secret: true}, {}}, Vars: vars{{Name: "p", Kind: 2, Size: 3}, reg("q")}, Rets: []string{"p", "z"}, Body: stmts{
				s(stmts{s(nil, nil), set("x", name("x"))}, stmts{set("y", name("x")), s(nil, stmts{s(nil, nil)})}),
				{},
			}},
		},
	}
}

// modelSame tells whether two values are the same; nil and empty lists are one.
func modelSame(a, b reflect.Value) bool {
	switch a.Kind() {
	case reflect.Slice:
		if a.Len() != b.Len() {
			return false
		}
		for i := range a.Len() {
			if !modelSame(a.Index(i), b.Index(i)) {
				return false
			}
		}
		return true
	case reflect.Struct:
		for i := range a.NumField() {
			if !modelSame(a.Field(i), b.Field(i)) {
				return false
			}
		}
		return true
	}
	return a.Equal(b)
}

// emptied has an empty list wherever there is nil, and nil wherever there is an empty one.
func emptied(v reflect.Value) {
	switch v.Kind() {
	case reflect.Slice:
		for i := range v.Len() {
			emptied(v.Index(i))
		}
		if v.IsNil() {
			v.Set(reflect.MakeSlice(v.Type(), 0, 1))
		} else if v.Len() == 0 {
			v.SetZero()
		}
	case reflect.Struct:
		for i := range v.NumField() {
			emptied(v.Field(i))
		}
	}
}

func wantSame(t *testing.T, what string, a, b api.Program, want bool) {
	t.Helper()
	if scope.Same(a, b) != want || scope.Same(b, a) != want {
		t.Errorf("%s: the same: %v", what, !want)
	}
}

// P7.3: Same, of what differs in one place, whatever may be.
func TestSame(t *testing.T) {
	for what, build := range map[string]func() api.Program{"everything": whole, "anything": anything} {
		p := build()
		wantSame(t, what, p, build(), true)
		wantSame(t, what+", and nothing", p, api.Program{}, false)
		eachChange(&p, func(where string) {
			wantSame(t, what+where, p, build(), modelSame(reflect.ValueOf(p), reflect.ValueOf(build())))
			wantSame(t, what+where, p, p, true)
		})
		wantSame(t, what, p, build(), true)
		emptied(reflect.ValueOf(&p).Elem())
		if reflect.DeepEqual(p, build()) {
			t.Error(what, "has no lists")
		}
		wantSame(t, what+", with empty lists", p, build(), true)
	}
	wantSame(t, "everything and anything", whole(), anything(), false)
	wantSame(t, "nothing", api.Program{}, api.Program{Regions: []api.Region{}, Funcs: []api.Func{}}, true)
	wantSame(t, "nothing, and a zero function", api.Program{}, api.Program{Funcs: []api.Func{{}}}, false)
	wantSame(t, "nothing, and a zero region", api.Program{}, api.Program{Regions: []api.Region{{}}}, false)
	wantSame(t, "another order", alone(set("x", word(1)), set("i", word(1))), alone(set("i", word(1)), set("x", word(1))), false)
	wantSame(t, "Body and Else", alone(when(word(1), stmts{{}}, nil)), alone(when(word(1), nil, stmts{{}})), false)
	wantSame(t, "E and A", alone(api.Stmt{E: word(1)}), alone(api.Stmt{A: word(1)}), false)
}

// P7.3: Clone is the same, of nothing and empty lists, too.
func TestClone(t *testing.T) {
	for what, p := range map[string]api.Program{
		"everything": whole(), "anything": anything(), "nothing": {}, "empty lists": {Regions: []api.Region{}, Funcs: []api.Func{}},
		"a function of empty lists": {Funcs: []api.Func{{Params: vars{}, Vars: vars{}, Rets: []string{}, Body: stmts{}}}},
	} {
		q := scope.Clone(p)
		if !modelSame(reflect.ValueOf(p), reflect.ValueOf(q)) {
			t.Error(what, "is", q)
		}
		wantSame(t, what, p, q, true)
	}
}

// P7.3: what is cloned shares no memory with what was handed in, nor does any of its lists with another one.
func TestCloneApart(t *testing.T) {
	for what, build := range map[string]func() api.Program{"everything": whole, "anything": anything} {
		p := build()
		q := scope.Clone(p)
		eachChange(&q, func(where string) {
			if !reflect.DeepEqual(p, build()) {
				t.Error(what, "is changed with its clone, by", where)
			}
		})
		q = scope.Clone(p)
		eachChange(&p, func(where string) {
			if !modelSame(reflect.ValueOf(q), reflect.ValueOf(build())) {
				t.Error(what, "'s clone is changed with it, by", where)
			}
		})
		seen := map[uintptr]string{}
		apart(t, reflect.ValueOf(p), what, seen)
		apart(t, reflect.ValueOf(scope.Clone(p)), what+"'s clone", seen)
	}
	// One list that is handed in twice comes back as two.
	l := stmts{set("x", op(api.OpNot, name("x")))}
	q := scope.Clone(alone(when(word(1), l, l), l[0]))
	apart(t, reflect.ValueOf(q), "lists", map[uintptr]string{})
}

// apart wants each list to lie elsewhere, with what stands behind it as far as it may grow without being moved.
func apart(t *testing.T, v reflect.Value, what string, seen map[uintptr]string) {
	t.Helper()
	switch v.Kind() {
	case reflect.Slice:
		if v.Cap() == 0 {
			return
		}
		size := v.Type().Elem().Size()
		for i := range v.Cap() {
			at := v.Pointer() + uintptr(i)*size
			key := at<<8 | uintptr(v.Type().Elem().Kind())
			if old, is := seen[key]; is {
				t.Fatalf("%s lies where %s does", what, old)
			}
			seen[key] = what
		}
		for i := range v.Len() {
			apart(t, v.Index(i), what, seen)
		}
	case reflect.Struct:
		for i := range v.NumField() {
			apart(t, v.Field(i), what, seen)
		}
	}
}

// P7.3: Clone and Same of made programs, and some of their changes.
func TestSameMade(t *testing.T) {
	m := maker{rand.New(rand.NewSource(73))}
	var l []api.Program
	for range 40 {
		l = append(l, m.program())
	}
	for i, a := range l {
		q := scope.Clone(a)
		if !reflect.DeepEqual(scope.Clone(q), q) {
			t.Error("the clone of a clone")
		}
		wantSame(t, "a clone", a, q, true)
		for _, b := range l[:i] {
			wantSame(t, "two", a, b, modelSame(reflect.ValueOf(a), reflect.ValueOf(b)))
		}
	}
}
