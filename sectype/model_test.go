package sectype_test

import (
	"maps"
	"math/bits"

	"muffle/api"
)

// model goes through a program as the chapter tells it, told once more: all words have a level, and what is wrong is handed back from each part.
type model struct {
	p     api.Program
	begun int
}

// modelCheck is what Check should tell of a program that may be.
func modelCheck(p api.Program) ([]bool, api.Errno) {
	m := model{p: p}
	return m.function(p.Funcs[len(p.Funcs)-1])
}

func (m *model) function(fn api.Func) ([]bool, api.Errno) {
	at := words{}
	for _, v := range fn.Vars {
		if v.Kind == api.VarReg {
			at[v.Name] = false
		}
	}
	for _, v := range fn.Params {
		at[v.Name] = v.Secret
	}
	behind, errno := m.stmts(fn, fn.Body, at)
	if errno != api.OK {
		return nil, errno
	}
	var l []bool
	for _, n := range fn.Rets {
		l = append(l, behind[n])
	}
	return l, api.OK
}

func (m *model) stmts(fn api.Func, l []api.Stmt, at words) (words, api.Errno) {
	at = maps.Clone(at)
	for _, s := range l {
		if m.begun++; m.begun > 65536 {
			return nil, api.ErrMany
		}
		var errno api.Errno
		if at, errno = m.stmt(fn, s, at); errno != api.OK {
			return nil, errno
		}
	}
	return at, api.OK
}

func (m *model) stmt(fn api.Func, s api.Stmt, at words) (words, api.Errno) {
	switch s.Kind {
	case api.StSet:
		secret, errno := m.expr(fn, s.E, at)
		at = maps.Clone(at)
		at[s.Name] = secret
		return at, errno
	case api.StPut:
		place, errno := m.expr(fn, s.A, at)
		secret, other := m.expr(fn, s.E, at)
		if errno != api.OK || other != api.OK || place || secret && !m.array(fn, s.Name) {
			return nil, api.ErrSecret
		}
		return at, api.OK
	case api.StIf:
		if secret, errno := m.expr(fn, s.E, at); secret || errno != api.OK {
			return nil, api.ErrSecret
		}
		a, errno := m.stmts(fn, s.Body, at)
		if errno != api.OK {
			return nil, errno
		}
		b, errno := m.stmts(fn, s.Else, at)
		return either(a, b), errno
	case api.StWhile, api.StFor:
		return m.loop(fn, s, at)
	}
	return m.call(fn, s, at)
}

func (m *model) loop(fn api.Func, s api.Stmt, at words) (words, api.Errno) {
	if s.Kind == api.StFor {
		at = maps.Clone(at)
		at[s.Name] = false
	}
	for {
		if s.Kind == api.StWhile {
			if secret, errno := m.expr(fn, s.E, at); secret || errno != api.OK {
				return nil, api.ErrSecret
			}
		}
		behind, errno := m.stmts(fn, s.Body, at)
		if errno != api.OK {
			return nil, errno
		}
		more := either(at, behind)
		if maps.Equal(more, at) {
			return at, api.OK
		}
		at = more
	}
}

func (m *model) call(fn api.Func, s api.Stmt, at words) (words, api.Errno) {
	for _, called := range m.p.Funcs {
		if called.Name != s.Name {
			continue
		}
		for i, e := range s.Args {
			if secret, errno := m.expr(fn, e, at); errno != api.OK || secret && !called.Params[i].Secret {
				return nil, api.ErrSecret
			}
		}
		l, errno := m.function(called)
		at = maps.Clone(at)
		for i, secret := range l {
			at[s.Names[i]] = secret
		}
		return at, errno
	}
	panic("no such function")
}

func (m *model) array(fn api.Func, n string) bool {
	for _, v := range fn.Vars {
		if v.Name == n {
			return v.Secret
		}
	}
	for _, r := range m.p.Regions {
		if r.Name == n {
			return r.Secret
		}
	}
	panic("no such array")
}

// expr is an expression's level, also beside an error.
func (m *model) expr(fn api.Func, e api.Expr, at words) (bool, api.Errno) {
	any, errno := false, api.OK
	for _, arg := range e.Args {
		secret, other := m.expr(fn, arg, at)
		any = any || secret
		errno = max(errno, other)
	}
	switch {
	case e.Op == api.OpVar:
		return at[e.Name], errno
	case e.Op == api.OpIndex && any:
		return m.array(fn, e.Name), api.ErrSecret
	case e.Op == api.OpIndex:
		return m.array(fn, e.Name), errno
	}
	return any, errno
}

func either(a, b words) words {
	out := maps.Clone(a)
	for n, secret := range b {
		out[n] = out[n] || secret
	}
	return out
}

// trial tells a program's levels by what they are, not by how they are found: a loop's are the least of all that could be.
// Levels are a set of bits, by the numbers of a function's words; that of answers of a function is kept.
type trial struct {
	model
	answers map[string]trialAnswer
}

type trialAnswer struct {
	rets  []bool
	wrong bool
}

// trialCheck is the levels of a program's answers, and whether its secrets are not kept; ErrMany it does not know.
func trialCheck(p api.Program) ([]bool, bool) {
	m := trial{model: model{p: p}, answers: map[string]trialAnswer{}}
	a := m.function(p.Funcs[len(p.Funcs)-1])
	return a.rets, a.wrong
}

// numbered is a function, the numbers of its words, and those that it sets.
type numbered struct {
	api.Func
	numbers map[string]int
	sets    uint
}

func (m *trial) function(fn api.Func) trialAnswer {
	if a, is := m.answers[fn.Name]; is {
		return a
	}
	f := numbered{fn, map[string]int{}, 0}
	at := uint(0)
	for _, v := range fn.Params {
		if v.Secret {
			at |= 1 << len(f.numbers)
		}
		f.numbers[v.Name] = len(f.numbers)
	}
	for _, v := range fn.Vars {
		if v.Kind == api.VarReg {
			f.numbers[v.Name] = len(f.numbers)
		}
	}
	f.sets = f.setsOf(fn.Body)
	at, wrong := m.stmts(f, fn.Body, at)
	a := trialAnswer{wrong: wrong}
	for _, n := range fn.Rets {
		a.rets = append(a.rets, f.has(at, n))
	}
	m.answers[fn.Name] = a
	return a
}

func (f numbered) setsOf(l []api.Stmt) uint {
	sets := uint(0)
	for _, s := range l {
		if s.Kind == api.StSet {
			sets = f.with(sets, s.Name, true)
		}
		for _, n := range s.Names {
			sets = f.with(sets, n, true)
		}
		sets |= f.setsOf(s.Body) | f.setsOf(s.Else)
	}
	return sets
}

func (f numbered) has(at uint, n string) bool {
	return at>>f.numbers[n]&1 == 1
}

func (f numbered) with(at uint, n string, secret bool) uint {
	at &^= 1 << f.numbers[n]
	if secret {
		at |= 1 << f.numbers[n]
	}
	return at
}

func (m *trial) stmts(f numbered, l []api.Stmt, at uint) (uint, bool) {
	any := false
	for _, s := range l {
		var wrong bool
		at, wrong = m.stmt(f, s, at)
		any = any || wrong
	}
	return at, any
}

func (m *trial) stmt(f numbered, s api.Stmt, at uint) (uint, bool) {
	if s.Kind == api.StWhile || s.Kind == api.StFor {
		return m.loop(f, s, at)
	}
	w := words{}
	for n := range f.numbers {
		w[n] = f.has(at, n)
	}
	secret, errno := m.expr(f.Func, s.E, w)
	wrong := errno != api.OK
	switch s.Kind {
	case api.StSet:
		return f.with(at, s.Name, secret), wrong
	case api.StPut:
		place, errno := m.expr(f.Func, s.A, w)
		return at, wrong || errno != api.OK || place || secret && !m.array(f.Func, s.Name)
	case api.StIf:
		a, wrongA := m.stmts(f, s.Body, at)
		b, wrongB := m.stmts(f, s.Else, at)
		return a | b, wrong || secret || wrongA || wrongB
	}
	for _, called := range m.p.Funcs {
		if called.Name != s.Name {
			continue
		}
		a := m.function(called)
		wrong = a.wrong
		for i, e := range s.Args {
			secret, errno := m.expr(f.Func, e, w)
			wrong = wrong || errno != api.OK || secret && !called.Params[i].Secret
		}
		for i, secret := range a.rets {
			at = f.with(at, s.Names[i], secret)
		}
	}
	return at, wrong
}

// loop tries all levels that are at least those ahead, and differ in what is set.
func (m *trial) loop(f numbered, s api.Stmt, at uint) (uint, bool) {
	round := func(at uint) (uint, bool) { return m.stmts(f, s.Body, at) }
	changed := f.sets &^ at
	least := ^uint(0)
	for some := changed; ; some = (some - 1) & changed {
		behind, _ := round(at | some)
		if behind&^(at|some) == 0 {
			least &= at | some
		}
		if some == 0 {
			break
		}
	}
	if bits.Len(least) > len(f.numbers) {
		panic("all words secret can't but do")
	}
	_, wrong := round(least)
	if s.Kind == api.StWhile {
		_, asked := m.stmt(f, api.Stmt{Kind: api.StIf, E: s.E}, least)
		wrong = wrong || asked
	}
	return least, wrong
}
