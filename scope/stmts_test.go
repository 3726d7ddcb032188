package scope_test

import (
	"reflect"
	"strings"
	"testing"

	"muffle/api"
)

// good are statements that small's last function may have, one of each kind.
func good() stmts {
	x, p := name("x"), name("p")
	return stmts{
		set("x", p), put("s", p, x), when(p, stmts{set("x", p)}, stmts{put("r", x, p)}), while(p, set("x", p)), rounds("i", 1, 2, set("x", p)), call([]string{"x", "y"}, "f", x, index("key", p)),
	}
}

// P7.1: ErrKind: each part that a kind does not have, set, one at a time; kinds that are none.
func TestParts(t *testing.T) {
	set := func(s *api.Stmt, field string) {
		v := reflect.ValueOf(s).Elem()
		to := reflect.ValueOf(api.Stmt{Name: "x", Names: []string{"x"}, E: word(0), A: name("x"), Args: exprs{word(1)}, Low: 1, High: 2, Body: stmts{rounds("j", 0, 0)}, Else: stmts{rounds("j", 0, 0)}})
		v.FieldByName(field).Set(to.FieldByName(field))
	}
	for _, s := range good() {
		wantMay(t, "a good one", small(s), api.OK)
		for i := range reflect.TypeOf(s).NumField() {
			field := reflect.TypeOf(s).Field(i).Name
			if field == "Kind" || strings.Contains(" "+modelFields(s.Kind)+" ", " "+field+" ") {
				continue
			}
			changed := s
			set(&changed, field)
			wantMay(t, field+" of a kind that has it not", small(changed), api.ErrKind)
			wantMay(t, field+" of a kind that has it not, within", small(while(word(1), when(word(1), nil, stmts{changed}))), api.ErrKind)
		}
		for _, e := range []api.Expr{{Op: -1}, {Op: 22}, {Word: 1}, {Name: "x"}, {Args: exprs{{}}}} {
			changed := s
			if changed.A = e; s.Kind != api.StPut {
				wantMay(t, "an A that is not zero", small(changed), api.ErrKind)
			}
			changed = s
			if changed.E = e; s.Kind == api.StFor || s.Kind == api.StCall {
				wantMay(t, "an E that is not zero", small(changed), api.ErrKind)
			}
		}
		for _, kind := range []api.StmtKind{-1 << 63, -1, 0, 7, 8, 1<<63 - 1} {
			changed := s
			changed.Kind = kind
			wantMay(t, "a kind that is none", small(changed), api.ErrKind)
		}
		for kind := api.StmtKind(1); kind <= 6; kind++ {
			changed := s
			changed.Kind = kind
			if kind != s.Kind && modelMay(small(changed)) == api.OK && !(s.Kind == api.StWhile && kind == api.StIf) {
				t.Error("may be a", kind, ":", s)
			}
			wantMay(t, "another kind", small(changed), modelMay(small(changed)))
		}
	}
	wantMay(t, "a zero statement", small(api.Stmt{}), api.ErrKind)
}

// P7.1: ErrKind: what expressions are, wherever they stand.
func TestExprs(t *testing.T) {
	x := name("x")
	for _, c := range []struct {
		e    api.Expr
		want api.Errno
	}{
		{word(0), api.OK}, {word(1<<64 - 1), api.OK}, {x, api.OK}, {name("p"), api.OK}, {index("r", x), api.OK}, {index("s", x), api.OK}, {index("key", word(99)), api.OK},
		{api.Expr{Op: api.OpConst, Args: exprs{}}, api.OK},
		{api.Expr{}, api.ErrKind}, {api.Expr{Args: exprs{x}}, api.ErrKind}, {api.Expr{Name: "x"}, api.ErrKind}, {api.Expr{Word: 1}, api.ErrKind},
		{op(api.OpConst, x), api.ErrKind}, {api.Expr{Op: api.OpConst, Name: "x"}, api.ErrKind}, {api.Expr{Op: api.OpConst, Name: "r"}, api.ErrKind}, {api.Expr{Op: api.OpConst, Name: "none"}, api.ErrKind},
		{api.Expr{Op: api.OpVar, Name: "x", Args: exprs{x}}, api.ErrKind}, {api.Expr{Op: api.OpVar, Name: "x", Word: 1}, api.ErrKind}, {api.Expr{Op: api.OpVar}, api.ErrName},
		{api.Expr{Op: api.OpIndex, Name: "r"}, api.ErrKind}, {api.Expr{Op: api.OpIndex, Name: "r", Args: exprs{x, x}}, api.ErrKind}, {api.Expr{Op: api.OpIndex, Name: "r", Word: 1, Args: exprs{x}}, api.ErrKind}, {op(api.OpIndex, x), api.ErrName},
		{index("r", api.Expr{}), api.ErrKind}, {op(api.OpAdd, x, api.Expr{}), api.ErrKind}, {op(api.OpPick, x, x, op(api.OpNot, api.Expr{})), api.ErrKind},
		{op(-1, x), api.ErrKind}, {op(-1<<63, x, x), api.ErrKind}, {op(0, x), api.ErrKind}, {op(22, x), api.ErrKind}, {op(22, x, x), api.ErrKind}, {op(23, x, x, x), api.ErrKind}, {op(99), api.ErrKind}, {op(1<<63-1, x, x, x), api.ErrKind},
	} {
		wantExpr(t, c.e, c.want)
	}
	for o := api.OpNot; o <= api.OpPick; o++ {
		args, _ := modelArgs(o)
		for n := range 5 {
			e := op(o, many(n, x)...)
			if n != args {
				wantExpr(t, e, api.ErrKind)
				continue
			}
			wantExpr(t, e, api.OK)
			e.Word = 1
			wantExpr(t, e, api.ErrKind)
			e.Word, e.Name = 0, "x"
			wantExpr(t, e, api.ErrKind)
			for i := range n {
				e := op(o, many(n, x)...)
				e.Args[i] = name("z")
				wantExpr(t, e, api.ErrName)
				e.Args[i] = name("r")
				wantExpr(t, e, api.ErrKind)
			}
		}
	}
}

// wantExpr wants that error of an expression in each place where one may stand.
func wantExpr(t *testing.T, e api.Expr, want api.Errno) {
	t.Helper()
	x := name("x")
	for _, s := range (stmts{
		set("x", e), put("r", e, x), put("r", x, e), when(e, nil, nil), while(e), call([]string{"x", "y"}, "f", e, x), call([]string{"x", "y"}, "f", x, e),
		set("x", op(api.OpNot, e)), when(index("r", op(api.OpPick, x, e, x)), nil, nil),
	}) {
		wantMay(t, "an expression", small(s), want)
		wantMay(t, "an expression within", small(rounds("i", 0, 1, while(x, when(x, nil, stmts{s})))), want)
	}
}

// P7.1: a word, an array or a region by its name, in each place where a name may stand.
func TestNamesOfStatements(t *testing.T) {
	x := name("x")
	whose := map[string]struct{ word, array api.Errno }{
		"x": {api.OK, api.ErrKind}, "p": {api.OK, api.ErrKind}, "y": {api.OK, api.ErrKind},
		"r": {api.ErrKind, api.OK}, "s": {api.ErrKind, api.OK}, "key": {api.ErrKind, api.OK},
		"z": {api.ErrName, api.ErrName}, "": {api.ErrName, api.ErrName}, "for": {api.ErrName, api.ErrName}, "a": {api.ErrName, api.ErrName}, "c": {api.ErrName, api.ErrName},
		"f": {api.ErrName, api.ErrName}, "main": {api.ErrName, api.ErrName}, "xx": {api.ErrName, api.ErrName}, "X": {api.ErrName, api.ErrName},
	}
	for n, want := range whose {
		wantExpr(t, name(n), want.word)
		wantExpr(t, index(n, x), want.array)
		wantMay(t, "set "+n, small(set(n, x)), want.word)
		wantMay(t, "put "+n, small(put(n, x, x)), want.array)
		wantMay(t, "the first of Names "+n, small(call([]string{n, "j"}, "f", x, x)), want.word)
		wantMay(t, "the second of Names "+n, small(call([]string{"j", n}, "f", x, x)), want.word)
		loop := want.word
		if n == "p" || n == "y" {
			// A parameter, and a Ret.
			loop = api.ErrArg
		}
		wantMay(t, "a loop of "+n, small(rounds(n, 0, 1)), loop)
	}
}

// P7.1: StFor.
func TestLoops(t *testing.T) {
	for _, c := range []struct {
		low, high uint64
		want      api.Errno
	}{
		{0, 0, api.OK}, {0, 1, api.OK}, {5, 5, api.OK}, {4, 5, api.OK}, {5, 4, api.ErrArg}, {1, 0, api.ErrArg}, {1<<64 - 1, 0, api.ErrArg},
		{0, 65535, api.OK}, {0, 65536, api.OK}, {65536, 65536, api.OK}, {65537, 65536, api.ErrArg}, {0, 65537, api.ErrArg}, {65537, 65537, api.ErrArg}, {0, 1<<64 - 1, api.ErrArg}, {1<<64 - 1, 1<<64 - 1, api.ErrArg}, {0, 1 << 63, api.ErrArg},
	} {
		wantMay(t, "rounds", small(rounds("i", c.low, c.high)), c.want)
		wantMay(t, "rounds within", small(rounds("j", 0, 1, rounds("i", c.low, c.high))), c.want)
	}
	one := word(1)
	for what, c := range map[string]struct {
		l    stmts
		want api.Errno
	}{
		"one behind the other":        {stmts{rounds("i", 0, 1), rounds("i", 0, 1)}, api.OK},
		"one in the other":            {stmts{rounds("i", 0, 1, rounds("i", 0, 1))}, api.ErrArg},
		"another one in it":           {stmts{rounds("i", 0, 1, rounds("j", 0, 1), rounds("j", 0, 1))}, api.OK},
		"deep in the other":           {stmts{rounds("i", 0, 1, while(one, rounds("j", 0, 1, when(one, nil, stmts{rounds("i", 0, 1)}))))}, api.ErrArg},
		"behind what is in the other": {stmts{rounds("i", 0, 1, rounds("j", 0, 1)), rounds("j", 0, 1, rounds("i", 0, 1))}, api.OK},
		"in two of an if":             {stmts{when(one, stmts{rounds("i", 0, 1)}, stmts{rounds("i", 0, 1)})}, api.OK},
		"what counts is read":         {stmts{set("x", name("i")), rounds("i", 0, 1, set("x", name("i"))), put("r", name("i"), name("i"))}, api.OK},
		"a Ret that is not set":       {stmts{rounds("y", 0, 0)}, api.ErrArg},
		"a parameter":                 {stmts{rounds("p", 0, 0)}, api.ErrArg},
		"another function's word":     {stmts{rounds("c", 0, 0)}, api.ErrName},
	} {
		wantMay(t, what, small(c.l...), c.want)
	}
	// A Param of another function may count here.
	p := small(rounds("i", 0, 1))
	p.Funcs[0].Params[0].Name, p.Funcs[0].Body = "i", stmts{set("i", one)}
	wantMay(t, "a word that counts elsewhere", p, api.OK)
}

// P7.1: a word that counts is set by nothing else: ahead of its loop, in it, and behind it.
func TestCounting(t *testing.T) {
	x, one := name("x"), word(1)
	for what, s := range map[string]api.Stmt{
		"set":                  set("i", x),
		"the first of Names":   call([]string{"i", "x"}, "f", x, x),
		"the second of Names":  call([]string{"x", "i"}, "f", x, x),
		"set, deep":            when(one, nil, stmts{while(one, set("i", x))}),
		"a call within a loop": rounds("j", 0, 1, call([]string{"x", "i"}, "f", x, x)),
	} {
		wantMay(t, what+", without a loop", small(s), api.OK)
		for where, l := range map[string]stmts{
			"ahead":           {s, rounds("i", 0, 1)},
			"in it":           {rounds("i", 0, 1, s)},
			"behind":          {rounds("i", 0, 1), s},
			"ahead of a deep": {s, when(one, nil, stmts{while(one, rounds("i", 0, 0))})},
			"beside":          {when(one, stmts{s}, stmts{rounds("i", 0, 1)})},
		} {
			wantMay(t, what+", "+where, small(l...), api.ErrArg)
		}
	}
	// Wherever the loop stands: also in what may not be, but is asked later.
	for _, s := range (stmts{{Kind: api.StSet, Body: stmts{rounds("x", 0, 0)}}, {Else: stmts{rounds("x", 9, 0)}}, {Kind: api.StWhile, E: x, Else: stmts{{Kind: -1, Body: stmts{rounds("x", 0, 0)}}}}}) {
		wantMay(t, "a loop in what may not be", small(set("x", one), s), api.ErrArg)
		wantMay(t, "a loop in what may not be, and stands ahead", small(s, set("x", one)), api.ErrKind)
	}
	for name, wrap := range wraps() {
		for n, want := range map[int]api.Errno{62: api.ErrArg, 63: api.ErrArg, 64: api.ErrNest, 65: api.ErrNest} {
			wantMay(t, "set ahead of a loop that is very deep by "+name, small(set("x", one), within(n, rounds("x", 0, 0), wrap)), want)
		}
	}
	// What is no word does not count; what may not count does.
	wantMay(t, "an array counts", small(put("r", x, x), rounds("r", 0, 1)), api.ErrKind)
	wantMay(t, "an array is set", small(set("r", x), rounds("r", 0, 1)), api.ErrKind)
	wantMay(t, "a parameter is set that counts", small(set("p", x), rounds("p", 0, 1)), api.ErrArg)
	// Of each function by itself.
	p := small(rounds("x", 0, 1))
	p.Funcs[0].Vars = append(p.Funcs[0].Vars, reg("x"))
	p.Funcs[0].Body = stmts{set("x", one)}
	wantMay(t, "a word of another function", p, api.OK)
}

// P7.1: StCall.
func TestCalls(t *testing.T) {
	x, xy := name("x"), []string{"x", "y"}
	for what, c := range map[string]struct {
		s    api.Stmt
		want api.Errno
	}{
		"as it should be":           {call(xy, "f", x, x), api.OK},
		"a parameter is set":        {call([]string{"p", "x"}, "f", x, x), api.OK},
		"no such function":          {call(xy, "g", x, x), api.ErrName},
		"no name":                   {call(xy, "", x, x), api.ErrName},
		"a word":                    {call(xy, "x", x, x), api.ErrName},
		"a region":                  {call(xy, "key", x, x), api.ErrName},
		"itself":                    {call([]string{"y"}, "main", x), api.ErrKind},
		"no Args":                   {call(xy, "f"), api.ErrArg},
		"too few Args":              {call(xy, "f", x), api.ErrArg},
		"too many Args":             {call(xy, "f", x, x, x), api.ErrArg},
		"no Names":                  {call(nil, "f", x, x), api.ErrArg},
		"empty Names":               {call([]string{}, "f", x, x), api.ErrArg},
		"too few Names":             {call(xy[:1], "f", x, x), api.ErrArg},
		"too many Names":            {call([]string{"x", "y", "j"}, "f", x, x), api.ErrArg},
		"too many Names, all alike": {call(many(1<<20, "x"), "f", x, x), api.ErrArg},
		"one name twice":            {call([]string{"x", "x"}, "f", x, x), api.ErrArg},
		"a zero one of Args":        {call(xy, "f", x, api.Expr{}), api.ErrKind},
		"zero Args, too many":       {call(xy, "f", make(exprs, 1<<20)...), api.ErrArg},
	} {
		wantMay(t, what, small(c.s), c.want)
	}
	p := small()
	p.Funcs[0].Body = stmts{call([]string{"c"}, "main", x)}
	wantMay(t, "a call of a function behind", p, api.ErrKind)
	p.Funcs[0].Body = stmts{call(nil, "main", name("z"))}
	wantMay(t, "a call of a function behind, and more", p, api.ErrKind)
	p.Funcs[0].Body = stmts{call([]string{"b", "c"}, "f", name("a"), name("a"))}
	wantMay(t, "a call of itself", p, api.ErrKind)
	// Names of many variables.
	f := api.Func{Name: "g", Vars: words(64)}
	for _, v := range f.Vars {
		f.Rets = append(f.Rets, v.Name)
	}
	g := api.Func{Name: "main", Vars: f.Vars, Body: stmts{call(f.Rets, "g")}}
	wantMay(t, "a call of 64 Names", api.Program{Funcs: []api.Func{f, g}}, api.OK)
	f.Params, f.Vars = f.Vars, nil
	g.Body[0].Args = many(64, word(1))
	wantMay(t, "a call of 64 Names and Args", api.Program{Funcs: []api.Func{f, g}}, api.OK)
	g.Body[0].Args = many(65, word(1))
	wantMay(t, "a call of 64 Names and 65 Args", api.Program{Funcs: []api.Func{f, g}}, api.ErrArg)
}
