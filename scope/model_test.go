package scope_test

import (
	"reflect"
	"regexp"
	"slices"
	"strings"

	"muffle/api"
)

// model tells May anew: all faults of a program are gathered, in any order, each with the place at which it is asked; then the first one is taken.
// A place begins with the number of the question, of 1 to 5; of a statement then comes the function's number, and where in it the statement stands.
type model struct {
	p      api.Program
	faults []fault
}

// fault is what is wrong, and where: places are lists of numbers, held against each other one by one.
type fault struct {
	at    []int
	errno api.Errno
}

func modelMay(p api.Program) api.Errno {
	m := &model{p: p}
	m.counts()
	m.regions()
	for f := range p.Funcs {
		m.function(f)
	}
	if len(m.faults) == 0 {
		return api.OK
	}
	return slices.MinFunc(m.faults, func(a, b fault) int { return slices.Compare(a.at, b.at) }).errno
}

func (m *model) wrong(is bool, errno api.Errno, at ...int) {
	if is {
		m.faults = append(m.faults, fault{slices.Clone(at), errno})
	}
}

func (m *model) counts() {
	m.wrong(len(m.p.Regions) > 16 || len(m.p.Funcs) < 1 || len(m.p.Funcs) > 32 || modelSize(m.p) > 65536, api.ErrMany, 1)
	for _, r := range m.p.Regions {
		m.wrong(r.Size < 1 || r.Size > 512, api.ErrMany, 1)
	}
	for _, f := range m.p.Funcs {
		m.wrong(len(f.Params)+len(f.Vars) > 64 || len(f.Rets) > 64, api.ErrMany, 1)
		for _, v := range append(slices.Clone(f.Params), f.Vars...) {
			m.wrong((v.Kind == 2 || v.Kind == 3) && (v.Size < 1 || v.Size > 512), api.ErrMany, 1)
		}
	}
}

func (m *model) regions() {
	taken := map[int]bool{}
	for i, r := range m.p.Regions {
		m.wrong(!isName(r.Name) || slices.ContainsFunc(m.p.Regions[:i], func(o api.Region) bool { return o.Name == r.Name }), api.ErrName, 2)
		if r.Size < 1 || r.Size > 512 {
			continue
		}
		if r.Addr < 0 || r.Addr > 49151 || r.Addr%8 > 0 || r.Addr+8*r.Size > 49152 {
			m.wrong(true, api.ErrBounds, 3)
			continue
		}
		// What begins at words' places meets by whole words.
		for w := range r.Size {
			m.wrong(taken[r.Addr/8+w], api.ErrBounds, 3)
			taken[r.Addr/8+w] = true
		}
	}
}

func (m *model) function(f int) {
	fn := m.p.Funcs[f]
	var global, words, used []string
	for _, r := range m.p.Regions {
		global = append(global, r.Name)
	}
	used = slices.Clone(global)
	for _, other := range m.p.Funcs[:f] {
		global = append(global, other.Name)
	}
	m.wrong(!isName(fn.Name) || slices.Contains(global, fn.Name), api.ErrName, 2)
	for i, v := range append(slices.Clone(fn.Params), fn.Vars...) {
		m.wrong(!isName(v.Name) || slices.Contains(used, v.Name), api.ErrName, 2)
		used = append(used, v.Name)
		if v.Kind == 1 {
			words = append(words, v.Name)
		}
		param := i < len(fn.Params)
		m.wrong(v.Kind < 1 || v.Kind > 3 || param && v.Kind > 1 || v.Kind == 1 && (v.Size != 0 || v.Secret && !param), api.ErrKind, 4)
	}
	for i, r := range fn.Rets {
		m.wrong(!slices.Contains(words, r) || slices.Contains(fn.Rets[:i], r), api.ErrName, 2)
	}
	m.stmts(f, fn.Body, nil, 5, f)
}

func (m *model) stmts(f int, l stmts, around []string, at ...int) {
	for i, s := range l {
		m.stmt(f, s, around, append(slices.Clone(at), i)...)
	}
}

// stmt gathers a statement's faults. A place within others is 2 numbers long, or 2 longer: so it tells how deep it is.
func (m *model) stmt(f int, s api.Stmt, around []string, at ...int) {
	sub := func(more ...int) []int { return append(slices.Clone(at), more...) }
	fields := modelFields(s.Kind)
	deep := (len(at) - 1) / 2
	if deep > 64 {
		m.wrong(true, api.ErrNest, sub(0)...)
		return
	}
	if fields == "" || !hasNothingBut(s, "Kind "+fields) {
		m.wrong(true, api.ErrKind, sub(1)...)
		return
	}
	fn := m.p.Funcs[f]
	counting := modelCounting(fn.Body, 1)
	switch s.Kind {
	case api.StSet:
		m.name(f, s.Name, true, sub(2, 0)...)
		m.wrong(slices.Contains(counting, s.Name), api.ErrArg, sub(2, 1)...)
	case api.StPut:
		m.name(f, s.Name, false, sub(2, 0)...)
		m.expr(f, s.A, deep, sub(3)...)
	case api.StFor:
		m.name(f, s.Name, true, sub(2, 0)...)
		param := slices.ContainsFunc(fn.Params, func(v api.Var) bool { return v.Name == s.Name })
		m.wrong(slices.Contains(around, s.Name) || s.Low > s.High || s.High > 65536 || param || slices.Contains(fn.Rets, s.Name), api.ErrArg, sub(2, 1)...)
		around = append(slices.Clone(around), s.Name)
	case api.StCall:
		m.call(f, s, counting, sub(2)...)
	}
	if strings.Contains(" "+fields+" ", " E ") {
		m.expr(f, s.E, deep, sub(4)...)
	}
	for i, e := range s.Args {
		m.expr(f, e, deep, sub(5, i)...)
	}
	m.stmts(f, s.Body, around, sub(6)...)
	m.stmts(f, s.Else, around, sub(7)...)
}

func (m *model) call(f int, s api.Stmt, counting []string, at ...int) {
	sub := func(more ...int) []int { return append(slices.Clone(at), more...) }
	g := slices.IndexFunc(m.p.Funcs, func(g api.Func) bool { return g.Name == s.Name })
	m.wrong(g < 0, api.ErrName, sub(0)...)
	m.wrong(g >= f, api.ErrKind, sub(0)...)
	for i, n := range s.Names {
		m.name(f, n, true, sub(1, i, 0)...)
		m.wrong(slices.Contains(counting, n) || slices.Contains(s.Names[:i], n), api.ErrArg, sub(1, i, 1)...)
	}
	if g >= 0 {
		m.wrong(len(s.Args) != len(m.p.Funcs[g].Params) || len(s.Names) != len(m.p.Funcs[g].Rets), api.ErrArg, sub(2)...)
	}
}

func (m *model) expr(f int, e api.Expr, deep int, at ...int) {
	sub := func(more ...int) []int { return append(slices.Clone(at), more...) }
	if deep > 64 {
		m.wrong(true, api.ErrNest, sub(0)...)
		return
	}
	args, fields := modelArgs(e.Op)
	m.wrong(len(e.Args) != args || !hasNothingBut(e, fields+" Name"), api.ErrKind, sub(1)...)
	if strings.Contains(fields, "Name") {
		m.name(f, e.Name, e.Op == api.OpVar, sub(2)...)
	} else {
		m.wrong(e.Name != "", api.ErrKind, sub(2)...)
	}
	for i, x := range e.Args {
		m.expr(f, x, deep+1, sub(3, i)...)
	}
}

// name gathers what is wrong with a word's name, or an array's.
func (m *model) name(f int, s string, isWord bool, at ...int) {
	kinds := []api.VarKind{}
	for _, v := range append(slices.Clone(m.p.Funcs[f].Params), m.p.Funcs[f].Vars...) {
		if v.Name == s {
			kinds = append(kinds, v.Kind)
		}
	}
	for _, r := range m.p.Regions {
		if r.Name == s {
			kinds = append(kinds, api.VarStack)
		}
	}
	m.wrong(len(kinds) == 0, api.ErrName, at...)
	m.wrong(len(kinds) > 0 && (kinds[0] == api.VarReg) != isWord, api.ErrKind, at...)
}

// modelFields are the names of the fields that a kind of a statement has.
func modelFields(kind api.StmtKind) string {
	return map[api.StmtKind]string{
		1: "Name E", 2: "Name A E", 3: "E Body Else", 4: "E Body", 5: "Name Low High Body", 6: "Names Name Args",
	}[kind]
}

// modelArgs are how many arguments an operation has, and the names of the fields that it has.
func modelArgs(o api.Op) (int, string) {
	switch {
	case o == 1:
		return 0, "Op Word"
	case o == 2:
		return 0, "Op Name"
	case o == 3:
		return 1, "Op Name Args"
	case o == 4 || o == 5:
		return 1, "Op Args"
	case o == 21:
		return 3, "Op Args"
	case o > 5 && o < 21:
		return 2, "Op Args"
	}
	return -1, ""
}

// modelCounting are the names that loops have.
func modelCounting(l stmts, deep int) []string {
	var out []string
	for _, s := range l {
		if deep > 64 {
			break
		}
		if s.Kind == 5 {
			out = append(out, s.Name)
		}
		out = append(append(out, modelCounting(s.Body, deep+1)...), modelCounting(s.Else, deep+1)...)
	}
	return out
}

// modelSize counts statements and expressions level by level.
func modelSize(p api.Program) int {
	n := 0
	for _, f := range p.Funcs {
		level := f.Body
		var asked exprs
		for range 64 {
			var next stmts
			var deeper exprs
			for _, e := range asked {
				deeper = append(deeper, e.Args...)
			}
			for _, s := range level {
				for _, e := range append(exprs{s.E, s.A}, s.Args...) {
					if !isNothing(reflect.ValueOf(e)) {
						deeper = append(deeper, e)
					}
				}
				next = append(append(next, s.Body...), s.Else...)
			}
			n += len(level) + len(deeper)
			level, asked = next, deeper
		}
	}
	return min(n, 65537)
}

var nameRE = regexp.MustCompile(`\A[a-z][a-z0-9_]{0,15}\z`)

func ownWords() []string {
	return strings.Fields("array else fn for if pick region secret stack var while")
}

func isName(s string) bool {
	return nameRE.MatchString(s) && !slices.Contains(ownWords(), s)
}

// isNothing tells whether a value is zero; an empty list is.
func isNothing(v reflect.Value) bool {
	switch v.Kind() {
	case reflect.Slice:
		return v.Len() == 0
	case reflect.Struct:
		for i := range v.NumField() {
			if !isNothing(v.Field(i)) {
				return false
			}
		}
		return true
	}
	return v.IsZero()
}

// hasNothingBut tells whether all other fields of a struct are zero.
func hasNothingBut(x any, fields string) bool {
	v := reflect.ValueOf(x)
	for i := range v.NumField() {
		if !slices.Contains(strings.Fields(fields), v.Type().Field(i).Name) && !isNothing(v.Field(i)) {
			return false
		}
	}
	return true
}
