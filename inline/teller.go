package inline

import "muffle/api"

// teller tells what becomes of the leakage of a function's statements.
type teller struct {
	p     *api.Program
	funcs map[string]taken
	own   find // of the function whose statements they are
}

func tellerOf(p *api.Program, all map[string]taken, f int) teller {
	return teller{p, all, finder(p, f)}
}

func (t teller) terms(l []api.Stmt) []api.Term {
	var out []api.Term
	for i := range l {
		out = append(out, t.deed(l[i].Kind)(l[i]))
	}
	return out
}

// deed is what tells the term of a kind of statement.
func (t teller) deed(kind api.StmtKind) func(s api.Stmt) api.Term {
	switch kind {
	case api.StIf:
		return t.branch
	case api.StWhile:
		return t.loop
	case api.StFor:
		return t.rounds
	case api.StCall:
		return t.call
	}
	return t.line
}

func (t teller) line(api.Stmt) api.Term {
	return api.Term{Kind: api.TermSame}
}

func (t teller) branch(s api.Stmt) api.Term {
	return api.Term{Kind: api.TermIf, Subs: [][]api.Term{t.terms(s.Body), t.terms(s.Else)}}
}

func (t teller) loop(s api.Stmt) api.Term {
	return api.Term{Kind: api.TermLoop, Subs: [][]api.Term{t.terms(s.Body)}}
}

func (t teller) rounds(s api.Stmt) api.Term {
	return api.Term{Kind: api.TermEach, Subs: [][]api.Term{t.terms(s.Body)}}
}

func (t teller) call(s api.Stmt) api.Term {
	f := t.funcs[s.Name]
	lines := t.given(s.Args)
	for _, v := range f.cleared {
		lines = append(lines, clearings(v)...)
	}
	var back []api.Term
	for range s.Names {
		back = append(back, api.Term{Kind: api.TermLines, Lines: make([][]api.Pick, 1)})
	}
	within := tellerOf(t.p, t.funcs, f.number)
	return api.Term{Kind: api.TermCall, Lines: lines, Subs: [][]api.Term{within.terms(t.p.Funcs[f.number].Body), back}}
}

// given is a line for each argument: a call's node has the places of all of them, one behind the other.
func (t teller) given(args []api.Expr) [][]api.Pick {
	var lines [][]api.Pick
	item := 0
	for i := range args {
		var line []api.Pick
		for range places(&args[i], t.own) {
			line = append(line, api.Pick{Kind: api.PickItem, Item: item})
			item++
		}
		lines = append(lines, line)
	}
	return lines
}

// clearings are the lines of what makes a variable 0.
func clearings(v api.Var) [][]api.Pick {
	if v.Kind == api.VarReg {
		return make([][]api.Pick, 1)
	}
	lines := make([][]api.Pick, v.Size)
	if v.Kind == api.VarStack {
		for i := range lines {
			lines[i] = []api.Pick{{Kind: api.PickWord, Word: uint64(i)}}
		}
	}
	return lines
}
