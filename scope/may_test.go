package scope_test

import (
	"strings"
	"testing"

	"muffle/api"
)

// P7.1: programs that may be.
func TestMay(t *testing.T) {
	wantMay(t, "everything", whole(), api.OK)
	wantMay(t, "a small one", small(), api.OK)
	for what, f := range map[string]api.Func{
		"a function without anything": {Name: "f"},
		"empty lists":                 {Name: "f", Params: vars{}, Vars: vars{}, Rets: []string{}, Body: stmts{}},
		"empty lists within": {Name: "f", Body: stmts{
			{Kind: api.StIf, Names: []string{}, Args: exprs{}, E: api.Expr{Op: api.OpConst, Args: exprs{}}, A: api.Expr{Args: exprs{}}, Body: stmts{}, Else: stmts{}},
		}},
		"Params alone":                {Name: "f", Params: vars{reg("f"), {Name: "y", Kind: api.VarReg, Secret: true}}},
		"a parameter that is told":    {Name: "f", Params: vars{reg("x")}, Rets: []string{"x"}},
		"each kind of Vars":           {Name: "f", Vars: vars{reg("x"), array("r", 1), stack("s", 1)}, Rets: []string{"x"}},
		"each kind of Vars, secret":   {Name: "f", Vars: vars{reg("x"), {Name: "r", Kind: api.VarArray, Size: 2, Secret: true}, {Name: "s", Kind: api.VarStack, Size: 2, Secret: true}}},
		"a loop without end":          {Name: "f", Body: stmts{while(word(1))}},
		"a place that an array lacks": {Name: "f", Vars: vars{array("r", 1)}, Body: stmts{put("r", word(1), index("r", word(1<<64-1)))}},
	} {
		wantMay(t, what, api.Program{Funcs: []api.Func{f}}, api.OK)
		wantMay(t, what, api.Program{Regions: []api.Region{}, Funcs: []api.Func{{Name: "g"}, f}}, api.OK)
	}
	p := api.Program{Funcs: []api.Func{{Name: "f"}, {Name: "g", Body: stmts{call(nil, "f"), call(nil, "f")}}, {Name: "h", Body: stmts{call(nil, "f"), call(nil, "g")}}}}
	wantMay(t, "calls of what stands ahead", p, api.OK)
}

// P7.1: ErrMany.
func TestMany(t *testing.T) {
	wantMay(t, "a program without anything", api.Program{}, api.ErrMany)
	wantMay(t, "no function", api.Program{Regions: small().Regions, Funcs: []api.Func{}}, api.ErrMany)
	for n, want := range map[int]api.Errno{1: api.OK, 16: api.OK, 17: api.ErrMany, 1000: api.ErrMany} {
		p := api.Program{Funcs: small().Funcs}
		for i := range n {
			p.Regions = append(p.Regions, api.Region{Name: numbered("g", i), Addr: 8 * i, Size: 1})
		}
		wantMay(t, "regions", p, want)
	}
	for n, want := range map[int]api.Errno{1: api.OK, 32: api.OK, 33: api.ErrMany, 5000: api.ErrMany} {
		wantMay(t, "functions", api.Program{Funcs: funcs(n)}, want)
	}
	for n, want := range map[int]api.Errno{63: api.OK, 64: api.OK, 65: api.ErrMany, 66: api.ErrMany, 5000: api.ErrMany} {
		l := words(n)
		for _, params := range []int{0, 1, 30, 63, n} {
			wantMay(t, "variables", api.Program{Funcs: []api.Func{{Name: "f", Params: l[:params], Vars: l[params:]}}}, want)
			wantMay(t, "variables of the first", api.Program{Funcs: []api.Func{{Name: "f", Params: l[:params], Vars: l[params:]}, {Name: "g"}}}, want)
		}
	}
	// More Rets than words can't but tell one twice, but that is asked later.
	f := api.Func{Name: "f", Vars: words(64)}
	for _, v := range f.Vars {
		f.Rets = append(f.Rets, v.Name)
	}
	wantMay(t, "64 Rets", api.Program{Funcs: []api.Func{f}}, api.OK)
	f.Rets = append(f.Rets, f.Rets[0])
	wantMay(t, "65 Rets", api.Program{Funcs: []api.Func{f}}, api.ErrMany)
	wantMay(t, "65 Rets, of none", api.Program{Funcs: []api.Func{{Name: "f", Rets: make([]string, 65)}}}, api.ErrMany)
	wantMay(t, "64 Rets, of none", api.Program{Funcs: []api.Func{{Name: "f", Rets: make([]string, 64)}}}, api.ErrName)
}

func funcs(n int) []api.Func {
	l := make([]api.Func, n)
	for i := range l {
		l[i].Name = numbered("f", i)
	}
	return l
}

func words(n int) vars {
	l := make(vars, n)
	for i := range l {
		l[i] = reg(numbered("a", i))
	}
	return l
}

// numbered is a name with some digits behind it.
func numbered(s string, i int) string {
	for ; i > 0; i /= 10 {
		s += string(rune('0' + i%10))
	}
	return s + "_"
}

// P7.1: ErrMany: the Size of an array, or a region.
func TestSizes(t *testing.T) {
	for n, want := range map[int]api.Errno{1: api.OK, 2: api.OK, 511: api.OK, 512: api.OK, 0: api.ErrMany, -1: api.ErrMany, 513: api.ErrMany, 1 << 61: api.ErrMany, 1<<63 - 1: api.ErrMany, -1 << 63: api.ErrMany} {
		p := small()
		p.Regions[0].Size = n
		wantMay(t, "a region's Size", p, want)
		for _, v := range []api.Var{array("z", n), stack("z", n), {Name: "z", Kind: api.VarArray, Size: n, Secret: true}, {Name: "z", Kind: api.VarStack, Size: n, Secret: true}} {
			for f := range small().Funcs {
				p := small()
				p.Funcs[f].Vars = append(p.Funcs[f].Vars, v)
				wantMay(t, "an array's Size", p, want)
				// An array can't be handed in; how large it is is asked first.
				p = small()
				p.Funcs[f].Params = append(p.Funcs[f].Params, v)
				if want == api.OK {
					wantMay(t, "an array among Params", p, api.ErrKind)
				} else {
					wantMay(t, "an array's Size, among Params", p, want)
				}
			}
		}
	}
}

// P7.1: ErrName: a name that is none.
func TestBadNames(t *testing.T) {
	bad := append(ownWords(), "", "A", "1", "_a", "a-b", "a b", "a\x00", "\xff", "é", "aB", "abcdefghijklmnopq", strings.Repeat("a", 1000), " a", "a ")
	for _, s := range bad {
		for what, change := range namings(s) {
			p := whole()
			change(&p)
			wantMay(t, what+" "+s, p, api.ErrName)
		}
	}
	good := []string{"z", "z0", "z_", "a9_z", "abcdefghijklmnox", "arrays", "els", "fo", "pick1", "p", "fn_"}
	for _, s := range good {
		for what, change := range namings(s) {
			p := whole()
			change(&p)
			wantMay(t, what+" "+s, p, api.OK)
		}
	}
}

// namings give a name to what nothing else of whole speaks of.
func namings(s string) map[string]func(p *api.Program) {
	return map[string]func(p *api.Program){
		"a region":   func(p *api.Program) { p.Regions = append(p.Regions, api.Region{Name: s, Addr: 1024, Size: 1}) },
		"a function": func(p *api.Program) { p.Funcs[3].Name = s },
		"a Param":    func(p *api.Program) { p.Funcs[0].Params, p.Funcs[3].Body = vars{reg(s)}, nil; p.Funcs[2].Body = nil },
		"a word":     func(p *api.Program) { p.Funcs[1].Vars = vars{reg(s)} },
		"an array":   func(p *api.Program) { p.Funcs[2].Vars = append(p.Funcs[2].Vars, array(s, 2)) },
		"a stack":    func(p *api.Program) { p.Funcs[3].Vars = append(p.Funcs[3].Vars, stack(s, 2)) },
	}
}

// P7.1: ErrName: a name that is there twice.
func TestDoubles(t *testing.T) {
	region := func(s string) api.Region { return api.Region{Name: s, Addr: 1024, Size: 1} }
	for what, c := range map[string]struct {
		change func(p *api.Program)
		want   api.Errno
	}{
		"two regions":                       {func(p *api.Program) { p.Regions = append(p.Regions, region("key")) }, api.ErrName},
		"a region and the first function":   {func(p *api.Program) { p.Regions = append(p.Regions, region("f")) }, api.ErrName},
		"a region and the last function":    {func(p *api.Program) { p.Regions = append(p.Regions, region("main")) }, api.ErrName},
		"two functions":                     {func(p *api.Program) { p.Funcs[0].Name = "main" }, api.ErrName},
		"two Params":                        {func(p *api.Program) { p.Funcs[1].Params = vars{reg("p"), reg("q"), reg("p")} }, api.ErrName},
		"two words":                         {func(p *api.Program) { p.Funcs[1].Vars = append(p.Funcs[1].Vars, reg("x")) }, api.ErrName},
		"a Param and a word":                {func(p *api.Program) { p.Funcs[1].Vars = append(p.Funcs[1].Vars, reg("p")) }, api.ErrName},
		"a Param and an array":              {func(p *api.Program) { p.Funcs[1].Vars = append(p.Funcs[1].Vars, array("p", 1)) }, api.ErrName},
		"a word and an array":               {func(p *api.Program) { p.Funcs[1].Vars = append(p.Funcs[1].Vars, stack("x", 1)) }, api.ErrName},
		"two arrays":                        {func(p *api.Program) { p.Funcs[1].Vars = append(p.Funcs[1].Vars, stack("r", 1)) }, api.ErrName},
		"a region and a Param":              {func(p *api.Program) { p.Regions = append(p.Regions, region("p")) }, api.ErrName},
		"a region and a word":               {func(p *api.Program) { p.Regions = append(p.Regions, region("c")) }, api.ErrName},
		"a region and an array":             {func(p *api.Program) { p.Regions = append(p.Regions, region("s")) }, api.ErrName},
		"words of two functions":            {func(p *api.Program) { p.Funcs[1].Vars = append(p.Funcs[1].Vars, reg("c")) }, api.OK},
		"a word and its function":           {func(p *api.Program) { p.Funcs[1].Vars = append(p.Funcs[1].Vars, reg("main")) }, api.OK},
		"an array and another function":     {func(p *api.Program) { p.Funcs[1].Vars = append(p.Funcs[1].Vars, array("f", 1)) }, api.OK},
		"a Param and a function behind":     {func(p *api.Program) { p.Funcs[0].Params[0].Name, p.Funcs[0].Body = "main", nil }, api.OK},
		"a Ret twice":                       {func(p *api.Program) { p.Funcs[1].Rets = []string{"y", "x", "y"} }, api.ErrName},
		"a Ret that is a Param":             {func(p *api.Program) { p.Funcs[1].Rets = []string{"p", "x", "y"} }, api.OK},
		"no Ret":                            {func(p *api.Program) { p.Funcs[1].Rets = nil }, api.OK},
		"a Ret that is none":                {func(p *api.Program) { p.Funcs[1].Rets = []string{"z"} }, api.ErrName},
		"a Ret that is no name":             {func(p *api.Program) { p.Funcs[1].Rets = []string{""} }, api.ErrName},
		"a Ret that is an array":            {func(p *api.Program) { p.Funcs[1].Rets = []string{"r"} }, api.ErrName},
		"a Ret that is a stack":             {func(p *api.Program) { p.Funcs[1].Rets = []string{"s"} }, api.ErrName},
		"a Ret that is a region":            {func(p *api.Program) { p.Funcs[1].Rets = []string{"key"} }, api.ErrName},
		"a Ret that is a function":          {func(p *api.Program) { p.Funcs[1].Rets = []string{"f"} }, api.ErrName},
		"a Ret that is another function's":  {func(p *api.Program) { p.Funcs[1].Rets = []string{"c"} }, api.ErrName},
		"a Ret whose kind is none":          {func(p *api.Program) { p.Funcs[1].Vars[1].Kind = 0 }, api.ErrName},
		"a Ret of the first that is a loop": {func(p *api.Program) { p.Funcs[0].Rets = []string{"x"} }, api.ErrName},
	} {
		p := small()
		c.change(&p)
		wantMay(t, what, p, c.want)
	}
}

// P7.1: ErrBounds.
func TestBounds(t *testing.T) {
	at := func(l ...int) api.Program {
		p := small()
		p.Regions = nil
		for i := 0; i < len(l); i += 2 {
			p.Regions = append(p.Regions, api.Region{Name: numbered("g", i), Addr: l[i], Size: l[i+1]})
		}
		return p
	}
	for _, c := range []struct {
		p    api.Program
		want api.Errno
	}{
		{at(0, 1), api.OK}, {at(0, 512), api.OK}, {at(8, 1), api.OK}, {at(24, 5), api.OK},
		{at(-8, 1), api.ErrBounds}, {at(-1, 1), api.ErrBounds}, {at(-8, 2), api.ErrBounds}, {at(-1<<63, 1), api.ErrBounds},
		{at(1, 1), api.ErrBounds}, {at(4, 1), api.ErrBounds}, {at(7, 1), api.ErrBounds}, {at(12, 1), api.ErrBounds},
		{at(49144, 1), api.OK}, {at(49152, 1), api.ErrBounds}, {at(49144, 2), api.ErrBounds}, {at(49136, 2), api.OK}, {at(49152-8*512, 512), api.OK}, {at(49160-8*512, 512), api.ErrBounds},
		{at(57344, 1), api.ErrBounds}, {at(65528, 1), api.ErrBounds}, {at(65536, 1), api.ErrBounds}, {at(65544, 1), api.ErrBounds}, {at(1<<63-8, 1), api.ErrBounds}, {at(1<<63-8, 512), api.ErrBounds},
		{at(0, 2, 16, 2), api.OK}, {at(16, 2, 0, 2), api.OK}, {at(0, 2, 8, 2), api.ErrBounds}, {at(8, 2, 0, 2), api.ErrBounds}, {at(0, 2, 0, 2), api.ErrBounds},
		{at(0, 4, 8, 1), api.ErrBounds}, {at(8, 1, 0, 4), api.ErrBounds}, {at(0, 1, 8, 1, 16, 1), api.OK}, {at(0, 1, 16, 1, 8, 1), api.OK}, {at(0, 1, 16, 1, 8, 2), api.ErrBounds}, {at(0, 1, 16, 1, 0, 1), api.ErrBounds},
	} {
		wantMay(t, "regions", c.p, c.want)
		if got := modelMay(c.p); got != c.want {
			t.Error("the model:", got, c)
		}
	}
}

// P7.1: ErrKind: what variables are.
func TestVariables(t *testing.T) {
	for _, c := range []struct {
		param, v api.Var
		want     api.Errno
	}{
		{reg("z"), reg("w"), api.OK},
		{api.Var{Name: "z", Kind: api.VarReg, Secret: true}, reg("w"), api.OK},
		{api.Var{Name: "z", Kind: api.VarReg, Size: 1}, reg("w"), api.ErrKind},
		{api.Var{Name: "z", Kind: api.VarReg, Size: -1}, reg("w"), api.ErrKind},
		{api.Var{Name: "z"}, reg("w"), api.ErrKind},
		{api.Var{Name: "z", Kind: 4}, reg("w"), api.ErrKind},
		{api.Var{Name: "z", Kind: -1}, reg("w"), api.ErrKind},
		{array("z", 2), reg("w"), api.ErrKind},
		{stack("z", 2), reg("w"), api.ErrKind},
		{reg("z"), api.Var{Name: "w", Kind: api.VarReg, Secret: true}, api.ErrKind},
		{reg("z"), api.Var{Name: "w", Kind: api.VarReg, Size: 1}, api.ErrKind},
		{reg("z"), api.Var{Name: "w", Kind: api.VarReg, Size: 513}, api.ErrKind},
		{reg("z"), api.Var{Name: "w", Kind: api.VarReg, Size: -1}, api.ErrKind},
		{reg("z"), api.Var{Name: "w"}, api.ErrKind},
		{reg("z"), api.Var{Name: "w", Size: 1}, api.ErrKind},
		{reg("z"), api.Var{Name: "w", Kind: -1, Size: 1}, api.ErrKind},
		{reg("z"), api.Var{Name: "w", Kind: 4, Size: 1}, api.ErrKind},
		{reg("z"), api.Var{Name: "w", Kind: 4, Size: 1000}, api.ErrKind},
		{reg("z"), api.Var{Name: "w", Kind: 1 << 62}, api.ErrKind},
	} {
		for f := range small().Funcs {
			p := small()
			p.Funcs[f].Params = append(p.Funcs[f].Params, c.param)
			p.Funcs[f].Vars = append(p.Funcs[f].Vars, c.v)
			wantMay(t, "a variable", p, c.want)
		}
	}
}
