package pretty_test

import (
	"fmt"
	"iter"
	"math/rand"
	"reflect"
	"regexp"
	"slices"
	"strings"
	"testing"

	"muffle/api"
	"muffle/pretty"
)

// What the tests hold the package against is told here anew: what may be told by lists of fields' names, depths level by level, texts by formats.

type (
	exprs = []api.Expr
	stmts = []api.Stmt
	vars  = []api.Var
)

func word(x uint64) api.Expr {
	return api.Expr{Op: api.OpConst, Word: x}
}

func name(s string) api.Expr {
	return api.Expr{Op: api.OpVar, Name: s}
}

func index(s string, at api.Expr) api.Expr {
	return api.Expr{Op: api.OpIndex, Name: s, Args: exprs{at}}
}

func op(o api.Op, args ...api.Expr) api.Expr {
	return api.Expr{Op: o, Args: args}
}

func set(s string, e api.Expr) api.Stmt {
	return api.Stmt{Kind: api.StSet, Name: s, E: e}
}

func put(s string, a, e api.Expr) api.Stmt {
	return api.Stmt{Kind: api.StPut, Name: s, A: a, E: e}
}

func when(e api.Expr, body, other stmts) api.Stmt {
	return api.Stmt{Kind: api.StIf, E: e, Body: body, Else: other}
}

func while(e api.Expr, body ...api.Stmt) api.Stmt {
	return api.Stmt{Kind: api.StWhile, E: e, Body: body}
}

func rounds(s string, low, high uint64, body ...api.Stmt) api.Stmt {
	return api.Stmt{Kind: api.StFor, Name: s, Low: low, High: high, Body: body}
}

func call(names []string, s string, args ...api.Expr) api.Stmt {
	return api.Stmt{Kind: api.StCall, Names: names, Name: s, Args: args}
}

// program is a program whose only function has these statements.
func program(l ...api.Stmt) api.Program {
	return api.Program{Funcs: []api.Func{{Name: "f", Body: l}}}
}

// nots are so many OpNot around an expression.
func nots(n int, e api.Expr) api.Expr {
	for range n {
		e = op(api.OpNot, e)
	}
	return e
}

// within is a statement within so many others, each time by what is handed in.
func within(n int, s api.Stmt, wrap func(l ...api.Stmt) api.Stmt) api.Stmt {
	for range n {
		s = wrap(s)
	}
	return s
}

// wraps are the ways in which a statement stands in another one.
func wraps() map[string]func(l ...api.Stmt) api.Stmt {
	return map[string]func(l ...api.Stmt) api.Stmt{
		"if":    func(l ...api.Stmt) api.Stmt { return when(name("x"), l, nil) },
		"else":  func(l ...api.Stmt) api.Stmt { return when(name("x"), nil, l) },
		"both":  func(l ...api.Stmt) api.Stmt { return when(name("x"), stmts{call(nil, "f")}, l) },
		"while": func(l ...api.Stmt) api.Stmt { return while(name("x"), l...) },
		"for":   func(l ...api.Stmt) api.Stmt { return rounds("i", 0, 4, l...) },
	}
}

// signTexts are the signs, in the order of the operations from OpAdd on.
func signTexts() []string {
	return strings.Fields("+ - * & | ^ << >> >>> <<< >>>> == != < <=")
}

// whole is a program that has everything.
func whole() api.Program {
	x := name("x")
	var all stmts
	for i := range signTexts() {
		all = append(all, set("a", op(api.OpAdd+api.Op(i), x, word(uint64(i)))))
	}
	return api.Program{
		Regions: []api.Region{{Name: "key", Addr: 8, Size: 4, Secret: true}, {Name: "out", Addr: 0, Size: 0}},
		Funcs: []api.Func{
			{Name: "none"},
			{Name: "one", Params: vars{{Name: "x", Kind: api.VarReg, Secret: true}}, Rets: []string{"x"}, Body: all},
			{
				Name:   "main",
				Params: vars{{Name: "x", Kind: api.VarReg}, {Name: "y", Kind: api.VarReg, Secret: true}, {Name: "z", Kind: api.VarReg}},
				Vars: vars{
					{Name: "a", Kind: api.VarReg}, {Name: "r", Kind: api.VarArray, Size: 4}, {Name: "r2", Kind: api.VarArray, Size: 512, Secret: true},
					{Name: "s", Kind: api.VarStack, Size: 2, Secret: true}, {Name: "s2", Kind: api.VarStack}, {Name: "b", Kind: api.VarReg},
				},
				Rets: []string{"a", "b"},
				Body: stmts{
					set("a", word(0)),
					put("s", op(api.OpNeg, x), index("r", op(api.OpNot, x))),
					when(x, stmts{call(nil, "none")}, stmts{while(op(api.OpNe, x, word(1)))}),
					when(op(api.OpPick, x, name("y"), word(1<<64-1)), stmts{set("a", x), set("b", x)}, nil),
					when(x, nil, stmts{set("a", x)}),
					when(x, nil, nil),
					rounds("i", 0, 4, rounds("j", 1<<64-1, 0), call([]string{"a"}, "one", index("key", x))),
					rounds("i", 7, 7),
					while(x, when(x, stmts{when(x, nil, nil)}, stmts{when(x, nil, stmts{put("out", word(0), x)})})),
					call([]string{"a", "b"}, "main", x, op(api.OpAdd, op(api.OpSub, x, word(1)), op(api.OpMul, x, x)), word(3)),
				},
			},
		},
	}
}

const wholeText = `region key 8 4 secret;
region out 0 0;
fn none() {
}
fn one(x secret) -> x {
	a = (x + 0);
	a = (x - 1);
	a = (x * 2);
	a = (x & 3);
	a = (x | 4);
	a = (x ^ 5);
	a = (x << 6);
	a = (x >> 7);
	a = (x >>> 8);
	a = (x <<< 9);
	a = (x >>>> 10);
	a = (x == 11);
	a = (x != 12);
	a = (x < 13);
	a = (x <= 14);
}
fn main(x, y secret, z) -> a, b {
	var a;
	array r 4;
	array r2 512 secret;
	stack s 2 secret;
	stack s2 0;
	var b;
	a = 0;
	s[-x] = r[~x];
	if x {
		none();
	} else {
		while (x != 1) {
		}
	}
	if pick(x, y, 18446744073709551615) {
		a = x;
		b = x;
	}
	if x {
	} else {
		a = x;
	}
	if x {
	}
	for i 0 4 {
		for j 18446744073709551615 0 {
		}
		a = one(key[x]);
	}
	for i 7 7 {
	}
	while x {
		if x {
			if x {
			}
		} else {
			if x {
			} else {
				out[0] = x;
			}
		}
	}
	a, b = main(x, ((x - 1) + (x * x)), 3);
}
`

var nameRE = regexp.MustCompile(`\A[a-z][a-z0-9_]{0,15}\z`)

func isName(s string) bool {
	return nameRE.MatchString(s) && !slices.Contains(strings.Fields("array else fn for if pick region secret stack var while"), s)
}

func ownWords() []string {
	return strings.Fields("array else fn for if pick region secret stack var while")
}

// fieldsOf are the names of the fields that a kind of a statement names.
func fieldsOf(kind api.StmtKind) string {
	return map[api.StmtKind]string{
		api.StSet: "Name E", api.StPut: "Name A E", api.StIf: "E Body Else", api.StWhile: "E Body", api.StFor: "Name Low High Body", api.StCall: "Names Name Args",
	}[kind]
}

// isNothing tells whether a value is zero; an empty list is.
func isNothing(v reflect.Value) bool {
	switch v.Kind() {
	case reflect.Slice:
		return v.Len() == 0
	case reflect.Struct:
		for i := range v.NumField() {
			if !isNothing(v.Field(i)) {
				return false
			}
		}
		return true
	}
	return v.IsZero()
}

// hasNothingBut tells whether all other fields of a struct are zero.
func hasNothingBut(x any, fields string) bool {
	v := reflect.ValueOf(x)
	for i := range v.NumField() {
		if !slices.Contains(strings.Fields(fields), v.Type().Field(i).Name) && !isNothing(v.Field(i)) {
			return false
		}
	}
	return true
}

func modelExpr(e api.Expr) bool {
	args, fields := 2, "Op Args"
	switch {
	case e.Op < 1 || e.Op > 21:
		return false
	case e.Op == 1:
		args, fields = 0, "Op Word"
	case e.Op == 2:
		args, fields = 0, "Op Name"
	case e.Op == 3:
		args, fields = 1, "Op Name Args"
	case e.Op <= 5:
		args = 1
	case e.Op == 21:
		args = 3
	}
	return len(e.Args) == args && hasNothingBut(e, fields) && (!strings.Contains(fields, "Name") || isName(e.Name)) && !slices.ContainsFunc(e.Args, func(x api.Expr) bool { return !modelExpr(x) })
}

func modelStmt(s api.Stmt) bool {
	fields := fieldsOf(s.Kind)
	has := func(field string) bool { return slices.Contains(strings.Fields(fields), field) }
	return fields != "" && hasNothingBut(s, "Kind "+fields) &&
		(!has("Name") || isName(s.Name)) && (!has("E") || modelExpr(s.E)) && (!has("A") || modelExpr(s.A)) &&
		!slices.ContainsFunc(s.Names, func(n string) bool { return !isName(n) }) && !slices.ContainsFunc(s.Args, func(x api.Expr) bool { return !modelExpr(x) }) &&
		modelStmts(s.Body) && modelStmts(s.Else)
}

func modelStmts(l stmts) bool {
	return !slices.ContainsFunc(l, func(s api.Stmt) bool { return !modelStmt(s) })
}

// modelMay tells whether a program can be told.
func modelMay(p api.Program) bool {
	for _, r := range p.Regions {
		if !isName(r.Name) || r.Addr < 0 || r.Size < 0 {
			return false
		}
	}
	for _, f := range p.Funcs {
		names := append([]string{f.Name}, f.Rets...)
		for _, v := range f.Params {
			names = append(names, v.Name)
			if v.Kind != 1 || v.Size != 0 {
				return false
			}
		}
		for _, v := range f.Vars {
			names = append(names, v.Name)
			if v.Kind < 1 || v.Kind > 3 || v.Size < 0 || v.Kind == 1 && (v.Size > 0 || v.Secret) {
				return false
			}
		}
		if slices.ContainsFunc(names, func(n string) bool { return !isName(n) }) || modelDeep(f.Body) > 64 || !modelStmts(f.Body) {
			return false
		}
	}
	return true
}

// modelDepth counts the levels of an expression.
func modelDepth(e api.Expr) int {
	deep := 0
	for level := (exprs{e}); len(level) > 0; deep++ {
		var next exprs
		for _, x := range level {
			next = append(next, x.Args...)
		}
		level = next
	}
	return deep
}

// modelDeep counts the levels of statements, of which each is a list of expressions, too.
func modelDeep(l stmts) int {
	deep := 0
	for _, s := range l {
		parts := s.Args
		for _, e := range []api.Expr{s.E, s.A} {
			if !isNothing(reflect.ValueOf(e)) {
				parts = append(slices.Clone(parts), e)
			}
		}
		deep = max(deep, modelDepth(api.Expr{Args: parts}), 1+modelDeep(s.Body), 1+modelDeep(s.Else))
	}
	return deep
}

func modelExprText(e api.Expr) string {
	var args []string
	for _, x := range e.Args {
		args = append(args, modelExprText(x))
	}
	switch {
	case e.Op == 1:
		return fmt.Sprint(e.Word)
	case e.Op == 2:
		return e.Name
	case e.Op == 3:
		return fmt.Sprintf("%s[%s]", e.Name, args[0])
	case e.Op <= 5:
		return "~-"[e.Op-4:][:1] + args[0]
	case e.Op == 21:
		return fmt.Sprintf("pick(%s, %s, %s)", args[0], args[1], args[2])
	}
	return fmt.Sprintf("(%s %s %s)", args[0], signTexts()[e.Op-6], args[1])
}

// modelLines are the lines of statements, each behind its tabs.
func modelLines(l stmts, tabs string) []string {
	var out []string
	lay := func(format string, a ...any) { out = append(out, tabs+fmt.Sprintf(format, a...)) }
	block := func(l stmts) { out = append(out, modelLines(l, tabs+"\t")...) }
	for _, s := range l {
		switch s.Kind {
		case api.StSet:
			lay("%s = %s;", s.Name, modelExprText(s.E))
			continue
		case api.StPut:
			lay("%s[%s] = %s;", s.Name, modelExprText(s.A), modelExprText(s.E))
			continue
		case api.StIf:
			lay("if %s {", modelExprText(s.E))
		case api.StWhile:
			lay("while %s {", modelExprText(s.E))
		case api.StFor:
			lay("for %s %d %d {", s.Name, s.Low, s.High)
		case api.StCall:
			left, args := "", []string(nil)
			if len(s.Names) > 0 {
				left = strings.Join(s.Names, ", ") + " = "
			}
			for _, x := range s.Args {
				args = append(args, modelExprText(x))
			}
			lay("%s%s(%s);", left, s.Name, strings.Join(args, ", "))
			continue
		}
		block(s.Body)
		if len(s.Else) > 0 {
			lay("} else {")
			block(s.Else)
		}
		lay("}")
	}
	return out
}

// modelText is a program's text.
func modelText(p api.Program) string {
	var b strings.Builder
	secret := map[bool]string{true: " secret"}
	for _, r := range p.Regions {
		fmt.Fprintf(&b, "region %s %d %d%s;\n", r.Name, r.Addr, r.Size, secret[r.Secret])
	}
	for _, f := range p.Funcs {
		var params []string
		for _, v := range f.Params {
			params = append(params, v.Name+secret[v.Secret])
		}
		fmt.Fprintf(&b, "fn %s(%s)", f.Name, strings.Join(params, ", "))
		for i, r := range f.Rets {
			b.WriteString(map[bool]string{true: " -> ", false: ", "}[i == 0] + r)
		}
		b.WriteString(" {\n")
		for _, v := range f.Vars {
			if v.Kind == 1 {
				fmt.Fprintf(&b, "\tvar %s;\n", v.Name)
			} else {
				fmt.Fprintf(&b, "\t%s %s %d%s;\n", []string{"array", "stack"}[v.Kind-2], v.Name, v.Size, secret[v.Secret])
			}
		}
		for _, line := range modelLines(f.Body, "\t") {
			b.WriteString(line + "\n")
		}
		b.WriteString("}\n")
	}
	return b.String()
}

// wantText wants a program's text, and its statements' lines.
func wantText(t *testing.T, p api.Program, want string) {
	t.Helper()
	if !pretty.May(p) {
		t.Errorf("can't be told: %.200q", want)
	}
	if got, errno := pretty.Text(p); got != want || errno != api.OK {
		t.Errorf("Text: %v, %.2000q; not %.2000q", errno, got, want)
	}
	for _, f := range p.Funcs {
		if got, want := gone(pretty.Lines(f.Body...)), modelLines(f.Body, ""); !slices.Equal(got, want) {
			t.Errorf("Lines: %q; not %q", got, want)
		}
	}
}

// wantNoText wants that a program can't be told.
func wantNoText(t *testing.T, what string, p api.Program) {
	t.Helper()
	if pretty.May(p) {
		t.Errorf("%s can be told", what)
	}
	if got, errno := pretty.Text(p); got != "" || errno != api.ErrArg {
		t.Errorf("Text of %s: %.200q, %v", what, got, errno)
	}
}

func wantExpr(t *testing.T, e api.Expr, want string, wantErrno api.Errno) {
	t.Helper()
	if got, errno := pretty.Expr(e); got != want || errno != wantErrno {
		t.Errorf("Expr: %.200q, %v; not %.200q, %v", got, errno, want, wantErrno)
	}
}

// gone are all lines, each behind its tabs.
func gone(seq iter.Seq2[int, string]) []string {
	var l []string
	for tabs, line := range seq {
		l = append(l, strings.Repeat("\t", tabs)+line)
	}
	return l
}

// eachChange changes what a pointer points at, in one place at a time, shows it, and lays it back as it was.
func eachChange(at any, see func(what string)) {
	changes(reflect.ValueOf(at).Elem(), "", see)
}

func changes(v reflect.Value, path string, see func(what string)) {
	try := func(x any) {
		old := reflect.New(v.Type()).Elem()
		old.Set(v)
		if v.Set(reflect.ValueOf(x).Convert(v.Type())); !reflect.DeepEqual(old.Interface(), v.Interface()) {
			see(fmt.Sprintf("%s = %v", path, x))
		}
		v.Set(old)
	}
	switch v.Kind() {
	case reflect.Struct:
		for i := range v.NumField() {
			changes(v.Field(i), path+"."+v.Type().Field(i).Name, see)
		}
	case reflect.Slice:
		for i := range v.Len() {
			changes(v.Index(i), fmt.Sprintf("%s[%d]", path, i), see)
		}
		n := v.Len()
		try(reflect.Append(v.Slice3(0, n, n), reflect.Zero(v.Type().Elem())).Interface())
		if n > 0 {
			try(reflect.Append(v.Slice3(0, n, n), v.Index(n-1)).Interface())
			try(v.Slice3(0, n-1, n-1).Interface())
			try(v.Slice3(1, n, n).Interface())
		}
	case reflect.String:
		for _, s := range []string{"", "q", "for", "x y", "0", v.String() + "_", "abcdefghijklmnopq"} {
			try(s)
		}
	case reflect.Bool:
		try(!v.Bool())
	case reflect.Uint64:
		for _, x := range []uint64{0, 1, 1<<64 - 1, v.Uint() + 1} {
			try(x)
		}
	default:
		for _, x := range []int64{-1 << 63, -1, 0, 1, 2, v.Int() + 1, v.Int() - 1, 7, 22, 1<<63 - 1} {
			try(x)
		}
	}
}

// maker makes programs that can be told; the same ones in each run.
type maker struct{ *rand.Rand }

func (m maker) name() string {
	return []string{"x", "y", "fo", "forx", "a_1", "abcdefghijklmnop"}[m.Intn(6)]
}

func (m maker) word() uint64 {
	return m.Uint64() >> uint(m.Intn(65))
}

func (m maker) names() []string {
	var l []string
	for range m.Intn(4) {
		l = append(l, m.name())
	}
	return l
}

func (m maker) expr(deep int) api.Expr {
	o := api.Op(1 + m.Intn(21))
	if deep <= 1 {
		o = api.Op(1 + m.Intn(2))
	}
	n := []int{0, 0, 0, 1, 1, 1, 2, 2, 2, 2, 2, 2, 2, 2, 2, 2, 2, 2, 2, 2, 2, 3}[o]
	e := api.Expr{Op: o}
	if o == 1 {
		e.Word = m.word()
	} else if o <= 3 {
		e.Name = m.name()
	}
	for range n {
		e.Args = append(e.Args, m.expr(deep-1))
	}
	return e
}

func (m maker) stmts(deep int) stmts {
	var l stmts
	for range m.Intn(4) {
		switch kind := api.StmtKind(1 + m.Intn(6)); {
		case kind == api.StSet || deep <= 1:
			l = append(l, set(m.name(), m.expr(deep)))
		case kind == api.StPut:
			l = append(l, put(m.name(), m.expr(deep), m.expr(deep)))
		case kind == api.StIf:
			l = append(l, when(m.expr(deep), m.stmts(deep-1), m.stmts(deep-1)))
		case kind == api.StWhile:
			l = append(l, while(m.expr(deep), m.stmts(deep-1)...))
		case kind == api.StFor:
			l = append(l, rounds(m.name(), m.word(), m.word(), m.stmts(deep-1)...))
		default:
			var args exprs
			for range m.Intn(5) {
				args = append(args, m.expr(deep))
			}
			l = append(l, call(m.names(), m.name(), args...))
		}
	}
	return l
}

func (m maker) program() api.Program {
	var p api.Program
	for range m.Intn(3) {
		p.Regions = append(p.Regions, api.Region{Name: m.name(), Addr: m.Intn(100), Size: m.Intn(100), Secret: m.Intn(2) == 0})
	}
	for range m.Intn(3) {
		f := api.Func{Name: m.name(), Rets: m.names(), Body: m.stmts(1 + m.Intn(4))}
		for range m.Intn(4) {
			f.Params = append(f.Params, api.Var{Name: m.name(), Kind: 1, Secret: m.Intn(2) == 0})
		}
		for range m.Intn(4) {
			v := api.Var{Name: m.name(), Kind: api.VarKind(1 + m.Intn(3))}
			if v.Kind > 1 {
				v.Size, v.Secret = m.Intn(100), m.Intn(2) == 0
			}
			f.Vars = append(f.Vars, v)
		}
		p.Funcs = append(p.Funcs, f)
	}
	return p
}
