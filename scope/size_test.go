package scope_test

import (
	"reflect"
	"testing"

	"muffle/api"
	"muffle/scope"
)

func wantSize(t *testing.T, what string, p api.Program, want int) {
	t.Helper()
	if got := scope.Size(p); got != want {
		t.Errorf("%s: %d, not %d", what, got, want)
	}
	if got := modelSize(p); got != want {
		t.Errorf("%s: the model: %d, not %d", what, got, want)
	}
}

// alone is a program of one function with these statements.
func alone(l ...api.Stmt) api.Program {
	return api.Program{Funcs: []api.Func{{Name: "f", Vars: vars{reg("x"), reg("i"), array("r", 4)}, Body: l}}}
}

// P7.1: Size.
func TestSize(t *testing.T) {
	x := name("x")
	wantSize(t, "nothing", api.Program{}, 0)
	wantSize(t, "regions alone", api.Program{Regions: whole().Regions}, 0)
	wantSize(t, "functions without anything", api.Program{Funcs: make([]api.Func, 40)}, 0)
	for what, c := range map[string]struct {
		s    api.Stmt
		want int
	}{
		"a set":                      {set("x", x), 2},
		"a set of a sum":             {set("x", op(api.OpAdd, x, nots(2, x))), 6},
		"a put":                      {put("r", nots(1, x), nots(2, x)), 6},
		"an if":                      {when(x, stmts{set("x", x)}, stmts{set("x", x), set("x", nots(1, x))}), 9},
		"a while":                    {while(index("r", x), set("x", x)), 5},
		"a for":                      {rounds("i", 0, 65536, set("x", x), rounds("i", 0, 1)), 4},
		"a call":                     {call([]string{"x", "y"}, "f", x, nots(1, x)), 4},
		"a call without anything":    {call(nil, "f"), 1},
		"a pick":                     {set("x", op(api.OpPick, x, nots(1, x), op(api.OpPick, x, x, x))), 9},
		"a zero statement":           {api.Stmt{}, 1},
		"a kind that is none":        {api.Stmt{Kind: -7, Name: "x", Names: []string{"x"}, Low: 1, High: 9}, 1},
		"a zero E":                   {set("x", api.Expr{}), 1},
		"a zero E, an empty list":    {set("x", api.Expr{Args: exprs{}}), 1},
		"a zero A":                   {put("r", api.Expr{}, x), 2},
		"a zero E and A":             {put("r", api.Expr{}, api.Expr{}), 1},
		"zero ones of Args":          {call(nil, "f", api.Expr{}, x, api.Expr{}), 2},
		"a zero one as an argument":  {set("x", op(api.OpNot, api.Expr{})), 3},
		"zero ones as arguments":     {call(nil, "f", op(api.OpAdd, api.Expr{}, x, api.Expr{Args: exprs{}})), 5},
		"a zero one of a zero one":   {set("x", api.Expr{Args: exprs{{Args: exprs{{}}}}}), 4},
		"what has a name alone":      {set("x", api.Expr{Name: "x"}), 2},
		"what has a word alone":      {set("x", api.Expr{Word: 1}), 2},
		"what has an Op alone":       {set("x", api.Expr{Op: -1}), 2},
		"parts that a kind has not":  {api.Stmt{Kind: api.StSet, A: x, E: x, Args: exprs{x, x}, Body: stmts{set("x", x)}, Else: stmts{{}, {}}}, 9},
		"parts of a kind that's one": {api.Stmt{A: nots(1, x), Else: stmts{{A: x}}, Body: stmts{{Args: exprs{x}}}}, 7},
	} {
		wantSize(t, what, alone(c.s), c.want)
		wantSize(t, what+", behind another", alone(rounds("i", 0, 0), c.s), c.want+1)
		wantSize(t, what+", in others", alone(when(x, stmts{c.s}, stmts{c.s, rounds("i", 0, 0, c.s)})), 3*c.want+3)
		p := alone(c.s)
		p.Funcs = append(p.Funcs, p.Funcs[0], small().Funcs[0])
		wantSize(t, what+", in two functions", p, 2*c.want+2)
	}
	p := whole()
	wantSize(t, "everything", p, modelSize(p))
	eachChange(&p, func(what string) { wantSize(t, what, p, modelSize(p)) })
	if !reflect.DeepEqual(p, whole()) {
		t.Error("a program was changed that was handed in")
	}
}

// P7.1: Size: what is deeper than MaxNest is not counted.
func TestSizeOfDeep(t *testing.T) {
	x := name("x")
	// How many count of n that are so deep.
	counted := func(n, deep int) int {
		if deep > 64 {
			return 0
		}
		return n
	}
	for _, n := range []int{1, 2, 61, 62, 63, 64, 65, 66, 200} {
		above := min(n, 64)
		wantSize(t, "an expression", alone(set("x", nots(n, x))), 1+above+counted(1, n+1))
		wantSize(t, "an expression of Args", alone(call(nil, "f", nots(n, x), nots(2, x))), 4+above+counted(1, n+1))
		wantSize(t, "a zero expression", alone(set("x", nots(n, api.Expr{}))), 1+above+counted(1, n+1))
		wantSize(t, "many expressions", alone(set("x", nots(n, op(api.OpAdd, many(9, x)...)))), 1+above+counted(1, n+1)+counted(9, n+2))
		for what, wrap := range wraps() {
			wantSize(t, what, alone(within(n, rounds("i", 0, 0), wrap)), 2*above+counted(1, n+1))
			wantSize(t, what+", with more", alone(within(n, when(word(1), stmts{{}, {}}, stmts{{}}), wrap)), 2*above+counted(2, n+1)+counted(3, n+2))
			wantSize(t, what+", with an expression", alone(within(n, set("x", nots(2, x)), wrap)), 2*above+counted(2, n+1)+counted(1, n+2)+counted(1, n+3))
		}
	}
}

// filled is a program with these statements in its last function, and so many others behind them that there are n statements and expressions.
func filled(n int, l ...api.Stmt) api.Program {
	p := alone(l...)
	p.Funcs = append([]api.Func{{Name: "g", Params: words(64)}}, p.Funcs...)
	f := &p.Funcs[1]
	f.Body = append(f.Body, many(n-modelSize(p), rounds("i", 0, 0))...)
	return p
}

// P7.1: MaxSize statements and expressions, and one more, for May and for Size, whatever they are.
func TestManyParts(t *testing.T) {
	x, leaf := name("x"), rounds("i", 0, 0)
	for what, l := range map[string]stmts{
		"statements alone":     nil,
		"statements in a Body": {while(x, many(60000, leaf)...)},
		"statements in a for":  {rounds("i", 0, 1, many(30000, set("x", x))...)},
		"statements in both":   {when(x, many(20000, leaf), many(40000, leaf))},
		"deep statements":      many(500, within(63, leaf, wraps()["else"])),
		"sets":                 many(32000, set("x", x)),
		"puts":                 many(20000, put("r", x, x)),
		"deep expressions":     many(1000, set("x", nots(63, x))),
		"picks":                many(10000, set("x", op(api.OpPick, x, x, index("r", x)))),
		"arguments of calls":   many(1000, call(nil, "g", many(64, x)...)),
	} {
		for n, want := range map[int]api.Errno{65535: api.OK, 65536: api.OK, 65537: api.ErrMany, 65538: api.ErrMany, 100000: api.ErrMany} {
			p := filled(n, l...)
			wantSize(t, what, p, min(n, 65537))
			wantMay(t, what, p, want)
			// In two functions it is as much.
			second := p.Funcs[1]
			half := len(second.Body) / 2
			p.Funcs[1].Body, second.Name, second.Body = second.Body[:half], "h", second.Body[half:]
			p.Funcs = append(p.Funcs, second)
			wantSize(t, what+", in two functions", p, min(n, 65537))
			wantMay(t, what+", in two functions", p, want)
		}
	}
	for _, n := range []int{65537, 1 << 20} {
		wantSize(t, "many that are none", alone(make(stmts, n)...), 65537)
		wantSize(t, "many arguments that are none", alone(set("x", api.Expr{Args: make(exprs, n)})), 65537)
		wantSize(t, "many zero ones of Args", alone(call(nil, "g", make(exprs, n)...)), 1)
	}
}
