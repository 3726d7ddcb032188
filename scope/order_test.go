package scope_test

import (
	"fmt"
	"slices"
	"testing"

	"muffle/api"
)

// asked is a fault that can be made in ordered: the number of the question, what is wrong, how it is told, and how it is laid there.
type asked struct {
	number int
	what   string
	want   api.Errno
	lay    func(p *api.Program)
}

// ordered is a program that may be, in which each fault of faults can be made beside any others.
func ordered() api.Program {
	x, y := name("x"), name("y")
	body := func() stmts {
		return stmts{
			set("x", op(api.OpAdd, x, y)),
			put("r", op(api.OpNot, x), op(api.OpNeg, y)),
			when(op(api.OpNot, x), stmts{set("x", x), while(x, set("x", x), set("y", y))}, stmts{set("x", y)}),
			rounds("i", 0, 1, set("x", x), set("y", y)),
			call([]string{"x", "y"}, "f", x, y),
			set("x", word(1)),
		}
	}
	v := func() vars { return vars{reg("y"), reg("i"), array("r", 4)} }
	return api.Program{
		Regions: []api.Region{{Name: "key", Addr: 8, Size: 2}, {Name: "out", Addr: 64, Size: 2}},
		Funcs: []api.Func{
			{Name: "f", Params: vars{reg("a"), reg("b")}, Rets: []string{"a", "b"}},
			{Name: "g", Params: vars{reg("x")}, Vars: v(), Rets: []string{"y", "x"}, Body: body()},
			{Name: "h", Params: vars{reg("x")}, Vars: v(), Rets: []string{"y", "x"}, Body: body()},
		},
	}
}

// faults are in the order in which they are asked; no two neighbours are told alike, but where a number tells one error alone.
func faults() []asked {
	return slices.Concat(wholeFaults(), stmtFaults(1), stmtFaults(2))
}

// wholeFaults are those of what is asked of the whole program ahead of all statements.
func wholeFaults() []asked {
	return []asked{
		{1, "the last function's Vars are too many", api.ErrMany, func(p *api.Program) { p.Funcs[2].Vars = append(p.Funcs[2].Vars, words(62)...) }},
		{2, "the second region's name", api.ErrName, func(p *api.Program) { p.Regions[1].Name = "key" }},
		{2, "the first function's name", api.ErrName, func(p *api.Program) { p.Funcs[0].Name = "" }},
		{2, "the first function's Param's name", api.ErrName, func(p *api.Program) { p.Funcs[0].Params[0].Name = "key" }},
		{2, "the first function's Rets", api.ErrName, func(p *api.Program) { p.Funcs[0].Rets[1] = "a" }},
		{2, "the last function's name", api.ErrName, func(p *api.Program) { p.Funcs[2].Name = "f" }},
		{2, "the last function's Vars' name", api.ErrName, func(p *api.Program) { p.Funcs[2].Vars[2].Name = "x" }},
		{2, "the last function's Rets", api.ErrName, func(p *api.Program) { p.Funcs[2].Rets[1] = "none" }},
		{3, "the first region's place", api.ErrBounds, func(p *api.Program) { p.Regions[0].Addr = 12 }},
		{3, "the second region's place", api.ErrBounds, func(p *api.Program) { p.Regions[1].Addr = 16 }},
		{4, "the first function's Param", api.ErrKind, func(p *api.Program) { p.Funcs[0].Params[1].Size = 1 }},
		{4, "the second function's Vars", api.ErrKind, func(p *api.Program) { p.Funcs[1].Vars[0].Secret = true }},
		{4, "the last function's Vars", api.ErrKind, func(p *api.Program) { p.Funcs[2].Vars[1].Size = 1 }},
	}
}

// stmtFaults are those of the statements of the function f.
func stmtFaults(f int) []asked {
	var l []asked
	in := func(what string, want api.Errno, change func(f *api.Func)) {
		l = append(l, asked{5, fmt.Sprintf("%s of function %d", what, f), want, func(p *api.Program) { change(&p.Funcs[f]) }})
	}
	e := func(s *api.Stmt) *api.Expr { return &s.E }
	in("the first name that is set", api.ErrName, func(f *api.Func) { f.Body[0].Name = "none" })
	in("the first expression", api.ErrKind, func(f *api.Func) { e(&f.Body[0]).Word = 1 })
	in("its first argument", api.ErrName, func(f *api.Func) { e(&f.Body[0]).Args[0].Name = "none" })
	in("its second argument", api.ErrKind, func(f *api.Func) { e(&f.Body[0]).Args[1].Name = "key" })
	in("an array's name", api.ErrName, func(f *api.Func) { f.Body[1].Name = "none" })
	in("a place", api.ErrKind, func(f *api.Func) { f.Body[1].A.Name = "x" })
	in("what is in it", api.ErrName, func(f *api.Func) { f.Body[1].A.Args[0].Name = "none" })
	in("what is put", api.ErrKind, func(f *api.Func) { f.Body[1].E.Word = 1 })
	in("a condition", api.ErrName, func(f *api.Func) { f.Body[2].E.Args[0].Name = "none" })
	in("an if's Body", api.ErrKind, func(f *api.Func) { f.Body[2].Body[0].Low = 1 })
	in("a loop's condition", api.ErrName, func(f *api.Func) { f.Body[2].Body[1].E.Name = "none" })
	in("a loop's Body", api.ErrArg, func(f *api.Func) { f.Body[2].Body[1].Body[0].Name = "i" })
	in("the end of it", api.ErrKind, func(f *api.Func) { f.Body[2].Body[1].Body[1].Kind = 7 })
	in("an if's Else", api.ErrName, func(f *api.Func) { f.Body[2].Else[0].Name = "none" })
	in("a loop's kind", api.ErrKind, func(f *api.Func) { f.Body[3].Else = stmts{{}} })
	in("a loop's rounds", api.ErrArg, func(f *api.Func) { f.Body[3].Low = 2 })
	in("the Body of it", api.ErrName, func(f *api.Func) { f.Body[3].Body[0].Name = "none" })
	in("the end of that", api.ErrKind, func(f *api.Func) { f.Body[3].Body[1].Name = "key" })
	in("who is called", api.ErrName, func(f *api.Func) { f.Body[4].Name = "none" })
	in("the first of Names", api.ErrKind, func(f *api.Func) { f.Body[4].Names[0] = "r" })
	in("the second of Names", api.ErrName, func(f *api.Func) { f.Body[4].Names[1] = "none" })
	in("how many Args", api.ErrArg, func(f *api.Func) { f.Body[4].Args = append(f.Body[4].Args, word(1)) })
	in("the first of Args", api.ErrKind, func(f *api.Func) { f.Body[4].Args[0].Word = 1 })
	in("the second of Args", api.ErrName, func(f *api.Func) { f.Body[4].Args[1].Name = "none" })
	in("the last statement", api.ErrKind, func(f *api.Func) { f.Body[5].E.Name = "x" })
	return l
}

// P7.1: of two faults the one is told that is asked first; so of more.
func TestOrder(t *testing.T) {
	wantMay(t, "without a fault", ordered(), api.OK)
	l := faults()
	for i, first := range l {
		if i > 0 && l[i-1].want == first.want && (first.number == 5 || l[i-1].number != first.number) {
			t.Errorf("%s: which of two can't be told", first.what)
		}
		all := ordered()
		for _, second := range l[i:] {
			p := ordered()
			second.lay(&p)
			wantMay(t, second.what, p, second.want)
			first.lay(&p)
			wantMay(t, first.what+", and "+second.what, p, first.want)
			second.lay(&all)
			wantMay(t, first.what+", and all up to "+second.what, all, first.want)
		}
	}
}

// P7.1: what has a lower number is told, wherever it stands: here, where it can, behind what has a higher one.
func TestOrderOfNumbers(t *testing.T) {
	x := name("x")
	many := []api.Var{array("z", 513)}
	type program = api.Program
	for _, c := range []struct {
		what    string
		numbers [2]int
		change  func(p *program)
		want    api.Errno
	}{
		{"a region's name, a region's Size", [2]int{2, 1}, func(p *program) { p.Regions = []api.Region{{Addr: 8, Size: 1}, {Name: "key"}} }, api.ErrMany},
		{"a function's name, an array's Size", [2]int{2, 1}, func(p *program) { p.Funcs[0].Name, p.Funcs[1].Vars = "", many }, api.ErrMany},
		{"a region's place, a region's Size", [2]int{3, 1}, func(p *program) { p.Regions = []api.Region{{Name: "key", Addr: 4, Size: 1}, {Name: "out"}} }, api.ErrMany},
		{"a region's place, how many Rets", [2]int{3, 1}, func(p *program) { p.Regions[0].Addr, p.Funcs[1].Rets = -8, make([]string, 65) }, api.ErrMany},
		{"a variable's kind, an array's Size", [2]int{4, 1}, func(p *program) { p.Funcs[0].Vars[0].Kind, p.Funcs[1].Vars = 9, many }, api.ErrMany},
		{"a statement's Kind, an array's Size", [2]int{5, 1}, func(p *program) { p.Funcs[0].Body[0].Kind, p.Funcs[1].Vars = 9, many }, api.ErrMany},
		{"a name that nothing has, how many statements", [2]int{5, 1}, func(p *program) { p.Funcs[0].Body[0].Name, p.Funcs[1].Body = "none", make(stmts, 65536) }, api.ErrMany},
		{"a region's place, the next one's name", [2]int{3, 2}, func(p *program) { p.Regions = []api.Region{{Name: "key", Addr: 4, Size: 1}, {Addr: 16, Size: 1}} }, api.ErrName},
		{"two regions that meet, of one name", [2]int{3, 2}, func(p *program) { p.Regions = append(p.Regions, p.Regions[0]) }, api.ErrName},
		{"a region's place, a function's name", [2]int{3, 2}, func(p *program) { p.Regions[0].Addr, p.Funcs[1].Name = 4, "key" }, api.ErrName},
		{"a region's place, a Param's name", [2]int{3, 2}, func(p *program) { p.Regions[0].Addr, p.Funcs[1].Params[0].Name = 49152, "" }, api.ErrName},
		{"a region's place, a variable's name", [2]int{3, 2}, func(p *program) { p.Regions[0].Addr, p.Funcs[1].Vars[0].Name = 4, "p" }, api.ErrName},
		{"a region's place, a Ret", [2]int{3, 2}, func(p *program) { p.Regions[0].Addr, p.Funcs[1].Rets[0] = 4, "r" }, api.ErrName},
		{"a Param's kind, its name", [2]int{4, 2}, func(p *program) { p.Funcs[1].Params[0] = api.Var{Kind: 9} }, api.ErrName},
		{"a Param's Size, a variable's name", [2]int{4, 2}, func(p *program) { p.Funcs[1].Params[0].Size, p.Funcs[1].Vars[0].Name = 1, "Z" }, api.ErrName},
		{"a variable's kind, the next function's name", [2]int{4, 2}, func(p *program) { p.Funcs[0].Vars = append(p.Funcs[0].Vars, api.Var{Name: "q"}); p.Funcs[1].Name = "f" }, api.ErrName},
		{"a secret word, the next function's Ret", [2]int{4, 2}, func(p *program) { p.Funcs[0].Vars[0].Secret, p.Funcs[1].Rets[0] = true, "c" }, api.ErrName},
		{"a statement's Kind, the next function's name", [2]int{5, 2}, func(p *program) { p.Funcs[0].Body[0].Kind, p.Funcs[1].Name = 9, "f" }, api.ErrName},
		{"a statement's Kind, the next function's Param", [2]int{5, 2}, func(p *program) { p.Funcs[0].Body[0].Kind, p.Funcs[1].Params[0].Name = 9, "x" }, api.ErrName},
		{"a statement's Kind, the next function's Ret", [2]int{5, 2}, func(p *program) { p.Funcs[0].Body[0].Kind, p.Funcs[1].Rets = 9, []string{"y", "y"} }, api.ErrName},
		{"how deep, the next function's name", [2]int{5, 2}, func(p *program) { p.Funcs[0].Body, p.Funcs[1].Name = stmts{within(64, set("c", x), wraps()["if"])}, "" }, api.ErrName},
		{"a Param's kind, a region's place", [2]int{4, 3}, func(p *program) { p.Regions[0].Addr, p.Funcs[0].Params[0].Kind = 4, 9 }, api.ErrBounds},
		{"a statement's Kind, a region's place", [2]int{5, 3}, func(p *program) { p.Regions[0].Addr, p.Funcs[0].Body[0].Kind = 4, 9 }, api.ErrBounds},
		{"a name that nothing has, a region's place", [2]int{5, 3}, func(p *program) { p.Regions[0].Addr, p.Funcs[0].Body[0].Name = 4, "none" }, api.ErrBounds},
		{"a name that nothing has, the next function's variable", [2]int{5, 4}, func(p *program) { p.Funcs[0].Body[0].Name, p.Funcs[1].Vars[1].Secret = "none", true }, api.ErrKind},
		{"a loop's rounds, the next function's variable", [2]int{5, 4}, func(p *program) {
			p.Funcs[0].Body, p.Funcs[1].Vars[0].Kind = stmts{rounds("c", 1, 0)}, 9
			p.Funcs[1].Rets = nil
		}, api.ErrKind},
		{"how deep, the next function's Param", [2]int{5, 4}, func(p *program) {
			p.Funcs[0].Body, p.Funcs[1].Params[0].Size = stmts{within(64, set("c", x), wraps()["if"])}, 1
		}, api.ErrKind},
	} {
		p := small()
		c.change(&p)
		wantMay(t, fmt.Sprint(c.numbers, c.what), p, c.want)
		if got := modelMay(p); got != c.want {
			t.Error("the model:", c.what, got)
		}
	}
}

// P7.1: of one region, one name, one variable, one statement: what is asked first.
func TestOrderOfOne(t *testing.T) {
	x := name("x")
	for _, c := range []struct {
		what   string
		change func(p *api.Program)
		want   api.Errno
	}{
		{"a region's Size, ahead of its name", func(p *api.Program) { p.Regions[0] = api.Region{Addr: 4} }, api.ErrMany},
		{"a region's name, ahead of its place", func(p *api.Program) { p.Regions[0] = api.Region{Addr: 4, Size: 1} }, api.ErrName},
		{"no function, ahead of regions", func(p *api.Program) { p.Funcs, p.Regions[0] = nil, api.Region{Addr: 4, Size: 1} }, api.ErrMany},
		{"an array's Size, ahead of its name", func(p *api.Program) { p.Funcs[1].Vars = append(p.Funcs[1].Vars, array("", 0)) }, api.ErrMany},
		{"a variable's name, ahead of its kind", func(p *api.Program) { p.Funcs[1].Vars = append(p.Funcs[1].Vars, api.Var{}) }, api.ErrName},
		{"a variable's kind, ahead of statements", func(p *api.Program) {
			p.Funcs[1].Vars, p.Funcs[1].Body = append(p.Funcs[1].Vars, api.Var{Name: "q"}), stmts{set("q", x), set("none", x)}
		}, api.ErrKind},
		{"how many statements, ahead of all they are", func(p *api.Program) { p.Funcs[0].Body, p.Funcs[1].Name = make(stmts, 65537), "" }, api.ErrMany},
		{"a function's name, ahead of many statements", func(p *api.Program) { p.Funcs[0].Body, p.Funcs[1].Name = make(stmts, 65536), "" }, api.ErrName},
		{"a Kind, ahead of a name", func(p *api.Program) { p.Funcs[1].Body = stmts{{Kind: api.StSet, Name: "none", A: x}} }, api.ErrKind},
		{"an array that is set, ahead of what counts", func(p *api.Program) { p.Funcs[1].Body = stmts{set("r", x), rounds("r", 0, 0)} }, api.ErrKind},
		{"what counts, ahead of E", func(p *api.Program) { p.Funcs[1].Body = stmts{set("i", name("none")), rounds("i", 0, 0)} }, api.ErrArg},
		{"a loop's name, ahead of its rounds", func(p *api.Program) { p.Funcs[1].Body = stmts{rounds("none", 1, 0)} }, api.ErrName},
		{"a function behind, ahead of Names", func(p *api.Program) { p.Funcs[1].Body = stmts{call([]string{"none"}, "main")} }, api.ErrKind},
		{"what counts of Names, ahead of the next", func(p *api.Program) { p.Funcs[1].Body = stmts{rounds("i", 0, 0), call([]string{"i", "none"}, "f")} }, api.ErrArg},
		{"a name twice, ahead of the next", func(p *api.Program) { p.Funcs[1].Body = stmts{call([]string{"x", "x", "none"}, "f")} }, api.ErrArg},
		{"the next, ahead of what counts", func(p *api.Program) { p.Funcs[1].Body = stmts{rounds("i", 0, 0), call([]string{"none", "i"}, "f")} }, api.ErrName},
		{"Names, ahead of how many", func(p *api.Program) { p.Funcs[1].Body = stmts{call([]string{"none"}, "f")} }, api.ErrName},
		{"how many Names, ahead of Args", func(p *api.Program) { p.Funcs[1].Body = stmts{call([]string{"x"}, "f", name("none"), x)} }, api.ErrArg},
		{"an Op, ahead of its name", func(p *api.Program) { p.Funcs[1].Body = stmts{set("x", op(api.OpVar, x))} }, api.ErrKind},
		{"an array's name, ahead of its place", func(p *api.Program) { p.Funcs[1].Body = stmts{set("x", index("none", index("x", x)))} }, api.ErrName},
		{"A, ahead of E", func(p *api.Program) { p.Funcs[1].Body = stmts{put("r", index("x", x), name("none"))} }, api.ErrKind},
	} {
		p := small()
		c.change(&p)
		wantMay(t, c.what, p, c.want)
	}
}
