package scope_test

import (
	"fmt"
	"reflect"
	"testing"

	"muffle/api"
	"muffle/scope"
)

type (
	exprs = []api.Expr
	stmts = []api.Stmt
	vars  = []api.Var
)

func word(x uint64) api.Expr {
	return api.Expr{Op: api.OpConst, Word: x}
}

func name(s string) api.Expr {
	return api.Expr{Op: api.OpVar, Name: s}
}

func index(s string, at api.Expr) api.Expr {
	return api.Expr{Op: api.OpIndex, Name: s, Args: exprs{at}}
}

func op(o api.Op, args ...api.Expr) api.Expr {
	return api.Expr{Op: o, Args: args}
}

func set(s string, e api.Expr) api.Stmt {
	return api.Stmt{Kind: api.StSet, Name: s, E: e}
}

func put(s string, a, e api.Expr) api.Stmt {
	return api.Stmt{Kind: api.StPut, Name: s, A: a, E: e}
}

func when(e api.Expr, body, other stmts) api.Stmt {
	return api.Stmt{Kind: api.StIf, E: e, Body: body, Else: other}
}

func while(e api.Expr, body ...api.Stmt) api.Stmt {
	return api.Stmt{Kind: api.StWhile, E: e, Body: body}
}

func rounds(s string, low, high uint64, body ...api.Stmt) api.Stmt {
	return api.Stmt{Kind: api.StFor, Name: s, Low: low, High: high, Body: body}
}

func call(names []string, s string, args ...api.Expr) api.Stmt {
	return api.Stmt{Kind: api.StCall, Names: names, Name: s, Args: args}
}

func reg(s string) api.Var {
	return api.Var{Name: s, Kind: api.VarReg}
}

func array(s string, size int) api.Var {
	return api.Var{Name: s, Kind: api.VarArray, Size: size}
}

func stack(s string, size int) api.Var {
	return api.Var{Name: s, Kind: api.VarStack, Size: size}
}

// small is a program that may be, if its last function may have these statements:
// that has a parameter p, the words x, y, i and j, of which y is its Ret, an array r of registers, and an array s on the stack; f, ahead of it, is called with two words and answers two.
func small(l ...api.Stmt) api.Program {
	return api.Program{
		Regions: []api.Region{{Name: "key", Addr: 8, Size: 2, Secret: true}},
		Funcs: []api.Func{
			{Name: "f", Params: vars{reg("a"), reg("b")}, Vars: vars{reg("c")}, Rets: []string{"b", "c"}, Body: stmts{set("c", name("a"))}},
			{Name: "main", Params: vars{reg("p")}, Vars: vars{reg("x"), reg("y"), reg("i"), reg("j"), array("r", 4), stack("s", 4)}, Rets: []string{"y"}, Body: l},
		},
	}
}

// whole is a program that may be, and has everything.
func whole() api.Program {
	x, y := name("x"), name("y")
	var all stmts
	for o := api.OpAdd; o <= api.OpLe; o++ {
		all = append(all, set("x", op(o, x, word(uint64(o)))))
	}
	return api.Program{
		Regions: []api.Region{{Name: "key", Addr: 128, Size: 4, Secret: true}, {Name: "out", Addr: 0, Size: 16}},
		Funcs: []api.Func{
			{Name: "none"},
			{Name: "one", Params: vars{{Name: "x", Kind: api.VarReg, Secret: true}}, Rets: []string{"x"}, Body: all},
			{Name: "f2_", Params: vars{reg("x"), reg("y")}, Vars: vars{reg("none")}, Rets: []string{"none", "x"}, Body: stmts{call([]string{"y"}, "one", x), call(nil, "none")}},
			{
				Name:   "main",
				Params: vars{reg("x"), {Name: "y", Kind: api.VarReg, Secret: true}},
				Vars: vars{
					reg("a"), array("r", 4), {Name: "r2", Kind: api.VarArray, Size: 512, Secret: true},
					{Name: "s", Kind: api.VarStack, Size: 2, Secret: true}, stack("s2", 1), reg("b"), reg("i"), reg("j"), reg("abcdefghijklmnop"),
				},
				Rets: []string{"b", "x"},
				Body: stmts{
					set("a", word(1<<64-1)),
					put("s", op(api.OpNeg, x), index("r", op(api.OpNot, x))),
					when(x, stmts{call(nil, "none")}, stmts{while(op(api.OpNe, x, word(1)))}),
					when(op(api.OpPick, x, y, word(0)), stmts{set("a", x), set("b", y)}, nil),
					when(x, nil, stmts{set("a", name("i"))}),
					when(x, nil, nil),
					rounds("i", 0, 4, rounds("j", 7, 7), call([]string{"a"}, "one", index("key", name("i"))), rounds("j", 1, 65536, put("r2", name("j"), name("i")))),
					rounds("i", 0, 0),
					while(x, when(x, stmts{when(x, nil, nil)}, stmts{when(x, nil, stmts{put("out", word(0), x)})})),
					call([]string{"abcdefghijklmnop", "y"}, "f2_", x, op(api.OpAdd, op(api.OpSub, x, word(1)), op(api.OpMul, index("s2", x), x))),
				},
			},
		},
	}
}

// nots are so many OpNot around an expression.
func nots(n int, e api.Expr) api.Expr {
	for range n {
		e = op(api.OpNot, e)
	}
	return e
}

// within is a statement within so many others, each time by what is handed in.
func within(n int, s api.Stmt, wrap func(l ...api.Stmt) api.Stmt) api.Stmt {
	for range n {
		s = wrap(s)
	}
	return s
}

// wraps are the ways in which a statement stands in another one, any number of times.
func wraps() map[string]func(l ...api.Stmt) api.Stmt {
	return map[string]func(l ...api.Stmt) api.Stmt{
		"if":    func(l ...api.Stmt) api.Stmt { return when(word(1), l, nil) },
		"else":  func(l ...api.Stmt) api.Stmt { return when(word(1), nil, l) },
		"while": func(l ...api.Stmt) api.Stmt { return while(word(1), l...) },
	}
}

func many[T any](n int, x T) []T {
	l := make([]T, n)
	for i := range l {
		l[i] = x
	}
	return l
}

// wantMay wants that error of May, and what goes with it of Form and Fit.
func wantMay(t *testing.T, what string, p api.Program, want api.Errno) {
	t.Helper()
	if got := scope.May(p); got != want {
		t.Errorf("%s: %v, not %v", what, got, want)
	}
	if want == api.OK {
		return
	}
	if form := scope.Form(p); form != (api.Form{}) {
		t.Errorf("%s: %v of what may not be", what, form)
	}
	if got := scope.Fit(p, inputOf(p)); got != api.ErrArg {
		t.Errorf("%s: Fit: %v", what, got)
	}
}

// inputOf is an input of as many words as a program asks for.
func inputOf(p api.Program) api.Input {
	var in api.Input
	if n := len(p.Funcs); n > 0 {
		in.Args = make([]uint64, len(p.Funcs[n-1].Params))
	}
	for _, r := range p.Regions {
		in.Regions = append(in.Regions, make([]uint64, min(max(r.Size, 0), 1000)))
	}
	return in
}

// eachChange changes what a pointer points at, in one place at a time, shows it, and lays it back as it was.
func eachChange(at any, see func(what string)) {
	for _, c := range changes(reflect.ValueOf(at).Elem(), "") {
		back := c.lay()
		see(c.what)
		back()
	}
}

// change is a place, and what to lay there.
type change struct {
	at, to reflect.Value
	what   string
}

// lay makes the change, and answers what takes it back.
func (c change) lay() (back func()) {
	old := reflect.New(c.at.Type()).Elem()
	old.Set(c.at)
	c.at.Set(c.to)
	return func() { c.at.Set(old) }
}

// changes are all changes of a value that is told by its fields and items.
func changes(v reflect.Value, path string) []change {
	var out []change
	try := func(what string, x any) {
		out = append(out, change{v, reflect.ValueOf(x).Convert(v.Type()), path + what})
	}
	switch v.Kind() {
	case reflect.Struct:
		for i := range v.NumField() {
			out = append(out, changes(v.Field(i), path+"."+v.Type().Field(i).Name)...)
		}
	case reflect.Slice:
		n := v.Len()
		for i := range n {
			out = append(out, changes(v.Index(i), fmt.Sprintf("%s[%d]", path, i))...)
		}
		try(", a zero one more", reflect.Append(v.Slice3(0, n, n), reflect.Zero(v.Type().Elem())).Interface())
		if n > 0 {
			try(", the last one twice", reflect.Append(v.Slice3(0, n, n), v.Index(n-1)).Interface())
			try(", the last one less", v.Slice3(0, n-1, n-1).Interface())
			try(", the first one less", v.Slice3(1, n, n).Interface())
		}
	case reflect.String:
		for _, s := range []string{"", "x", "y", "i", "r", "key", "one", "main", "for", v.String() + "_", "q"} {
			if s != v.String() {
				try(" = "+s, s)
			}
		}
	case reflect.Bool:
		try(" turned", !v.Bool())
	case reflect.Uint64:
		for _, x := range []uint64{0, 1, 65536, 65537, 1<<64 - 1, v.Uint() + 1} {
			if x != v.Uint() {
				try(fmt.Sprint(" = ", x), x)
			}
		}
	default:
		for _, x := range []int64{-1 << 63, -8, -1, 0, 1, 2, 3, v.Int() + 1, v.Int() - 1, v.Int() + 8, 7, 22, 512, 513, 49152, 1<<63 - 1, 1<<63 - 8} {
			if x != v.Int() {
				try(fmt.Sprint(" = ", x), x)
			}
		}
	}
	return out
}
