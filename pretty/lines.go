package pretty

import (
	"iter"
	"slices"
	"strconv"
	"strings"

	"muffle/api"
)

// programLines goes over the lines of a program that can be told, each with how many tabs stand ahead.
func programLines(p api.Program) iter.Seq2[int, string] {
	return func(yield func(tabs int, line string) bool) {
		for _, r := range p.Regions {
			if !yield(0, regionLine(r)) {
				return
			}
		}
		for i := range p.Funcs {
			if !showFunc(&p.Funcs[i], yield) {
				return
			}
		}
	}
}

// showFunc shows a function's lines, until it is told to stop by a false; then it answers false, too.
func showFunc(f *api.Func, show func(tabs int, line string) bool) bool {
	if !show(0, funcLine(f)) {
		return false
	}
	for _, v := range f.Vars {
		if !show(1, varLine(v)) {
			return false
		}
	}
	for tabs, line := range stmtLines(f.Body) {
		if !show(tabs+1, line) {
			return false
		}
	}
	return show(0, "}")
}

// stmtLines goes over the lines of statements that can be told, each with how many tabs stand ahead.
func stmtLines(l []api.Stmt) iter.Seq2[int, string] {
	return func(yield func(tabs int, line string) bool) {
		t := newTeller()
		var show func(l []api.Stmt, tabs int) bool
		show = func(l []api.Stmt, tabs int) bool {
			for i := range l {
				s := &l[i]
				if !yield(tabs, t.firstLine(s)) {
					return false
				}
				if !hasBlock(s.Kind) {
					continue
				}
				if !show(s.Body, tabs+1) {
					return false
				}
				if len(s.Else) > 0 && (!yield(tabs, "} else {") || !show(s.Else, tabs+1)) {
					return false
				}
				if !yield(tabs, "}") {
					return false
				}
			}
			return true
		}
		show(l, 0)
	}
}

func hasBlock(kind api.StmtKind) bool {
	return kind == api.StIf || kind == api.StWhile || kind == api.StFor
}

// firstLine is a statement's first line; of one without a block, its only one.
func (t teller) firstLine(s *api.Stmt) string {
	switch s.Kind {
	case api.StSet:
		return s.Name + " = " + t.exprText(&s.E) + ";"
	case api.StPut:
		return string(t.place(nil, s.Name, &s.A)) + " = " + t.exprText(&s.E) + ";"
	case api.StIf:
		return "if " + t.exprText(&s.E) + " {"
	case api.StWhile:
		return "while " + t.exprText(&s.E) + " {"
	case api.StFor:
		return "for " + s.Name + " " + strconv.FormatUint(s.Low, 10) + " " + strconv.FormatUint(s.High, 10) + " {"
	}
	call := string(t.list([]byte(s.Name), s.Args)) + ";"
	if len(s.Names) == 0 {
		return call
	}
	return strings.Join(s.Names, between) + " = " + call
}

func regionLine(r api.Region) string {
	return "region " + r.Name + " " + strconv.Itoa(r.Addr) + " " + strconv.Itoa(r.Size) + secretText(r.Secret) + ";"
}

func funcLine(f *api.Func) string {
	params := make([]string, len(f.Params))
	for i, v := range f.Params {
		params[i] = v.Name + secretText(v.Secret)
	}
	line := "fn " + f.Name + "(" + strings.Join(params, between) + ")"
	if len(f.Rets) > 0 {
		line += " -> " + strings.Join(f.Rets, between)
	}
	return line + " {"
}

func varLine(v api.Var) string {
	word := "var "
	switch v.Kind {
	case api.VarReg:
		return word + v.Name + ";"
	case api.VarArray:
		word = "array "
	case api.VarStack:
		word = "stack "
	}
	return word + v.Name + " " + strconv.Itoa(v.Size) + secretText(v.Secret) + ";"
}

func secretText(secret bool) string {
	if secret {
		return " secret"
	}
	return ""
}

func copyStmts(l []api.Stmt) []api.Stmt {
	out := slices.Clone(l)
	for i := range out {
		s := &out[i]
		s.Names = slices.Clone(s.Names)
		s.E.Args, s.A.Args, s.Args = copyExprs(s.E.Args), copyExprs(s.A.Args), copyExprs(s.Args)
		s.Body, s.Else = copyStmts(s.Body), copyStmts(s.Else)
	}
	return out
}

func copyExprs(l []api.Expr) []api.Expr {
	out := slices.Clone(l)
	for i := range out {
		out[i].Args = copyExprs(out[i].Args)
	}
	return out
}
