package source_test

import (
	"math/bits"
	"slices"

	"muffle/api"
)

// model is a run as the chapter tells it, told once more: what ends it is handed back from each part, and so is what the part leaks.
type model struct {
	p                  api.Program
	fuel, steps, asked int
	regions            map[string][]uint64
}

// modelFrame has all words and arrays of a function from its beginning on.
type modelFrame struct {
	words  map[string]uint64
	arrays map[string][]uint64
	stack  map[string]bool // which arrays lie on the stack
}

func modelRun(p api.Program, in api.Input, fuel int) api.Ran {
	m := model{p: p, fuel: fuel, regions: map[string][]uint64{}}
	for i, r := range p.Regions {
		m.regions[r.Name] = slices.Clone(in.Regions[i])
	}
	l, rets, errno := m.function(p.Funcs[len(p.Funcs)-1], in.Args)
	x := api.Ran{Leak: l, Steps: m.steps, Asked: m.asked, Errno: errno}
	if errno == api.OK {
		x.Out.Rets = rets
		for _, r := range p.Regions {
			x.Out.Regions = append(x.Out.Regions, m.regions[r.Name])
		}
	}
	return x
}

func (m *model) function(fn api.Func, args []uint64) (l []api.Leak, rets []uint64, errno api.Errno) {
	f := modelFrame{map[string]uint64{}, map[string][]uint64{}, map[string]bool{}}
	for i, v := range fn.Params {
		f.words[v.Name] = args[i]
	}
	for _, v := range fn.Vars {
		if v.Kind == api.VarReg {
			f.words[v.Name] = 0
		} else {
			f.arrays[v.Name], f.stack[v.Name] = make([]uint64, v.Size), v.Kind == api.VarStack
		}
	}
	for name, words := range m.regions {
		f.arrays[name], f.stack[name] = words, true
	}
	if l, errno = m.stmts(f, fn.Body); errno != api.OK {
		return l, nil, errno
	}
	for _, name := range fn.Rets {
		rets = append(rets, f.words[name])
	}
	return l, rets, api.OK
}

func (m *model) step() api.Errno {
	if m.steps >= m.fuel {
		return api.ErrFuel
	}
	m.steps++
	return api.OK
}

func (m *model) stmts(f modelFrame, body []api.Stmt) ([]api.Leak, api.Errno) {
	var l []api.Leak
	for _, s := range body {
		if errno := m.step(); errno != api.OK {
			return l, errno
		}
		n, errno := m.stmt(f, s)
		if n.Kind != 0 {
			l = append(l, n)
		}
		if errno != api.OK {
			return l, errno
		}
	}
	return l, api.OK
}

// stmt is the node of a statement; a zero one: it leaks nothing.
func (m *model) stmt(f modelFrame, s api.Stmt) (api.Leak, api.Errno) {
	switch s.Kind {
	case api.StSet:
		x, places, errno := f.expr(s.E)
		if errno != api.OK {
			return api.Leak{}, errno
		}
		f.words[s.Name] = x
		return api.Leak{Kind: api.LeakLine, Items: places}, api.OK
	case api.StPut:
		l, places, errno := f.exprs(exprs{s.A, s.E})
		if errno != api.OK || l[0] >= uint64(len(f.arrays[s.Name])) {
			return api.Leak{}, api.ErrBounds
		}
		if f.stack[s.Name] {
			places = append(places, l[0])
		}
		f.arrays[s.Name][l[0]] = l[1]
		return api.Leak{Kind: api.LeakLine, Items: places}, api.OK
	case api.StIf:
		x, places, errno := f.expr(s.E)
		if errno != api.OK {
			return api.Leak{}, errno
		}
		body := s.Else
		if x != 0 {
			body = s.Body
		}
		l, errno := m.stmts(f, body)
		return api.Leak{Kind: api.LeakIf, Items: places, Taken: x != 0, Subs: [][]api.Leak{l}}, errno
	case api.StWhile:
		l, errno := m.loop(f, s)
		return api.Leak{Kind: api.LeakLoop, Subs: [][]api.Leak{l}}, errno
	case api.StFor:
		l, errno := m.rounds(f, s)
		return api.Leak{Kind: api.LeakFor, Subs: l}, errno
	}
	return m.call(f, s)
}

func (m *model) loop(f modelFrame, s api.Stmt) ([]api.Leak, api.Errno) {
	var list []api.Leak
	for {
		if errno := m.step(); errno != api.OK {
			return list, errno
		}
		m.asked++
		x, places, errno := f.expr(s.E)
		if errno != api.OK {
			return list, errno
		}
		n := api.Leak{Kind: api.LeakIf, Items: places, Taken: x != 0, Subs: [][]api.Leak{nil}}
		if x != 0 {
			n.Subs[0], errno = m.stmts(f, s.Body)
		}
		list = append(list, n)
		if x == 0 || errno != api.OK {
			return list, errno
		}
	}
}

func (m *model) rounds(f modelFrame, s api.Stmt) ([][]api.Leak, api.Errno) {
	var lists [][]api.Leak
	f.words[s.Name] = s.Low
	for ; f.words[s.Name] < s.High; f.words[s.Name]++ {
		if errno := m.step(); errno != api.OK {
			return lists, errno
		}
		l, errno := m.stmts(f, s.Body)
		lists = append(lists, l)
		if errno != api.OK {
			return lists, errno
		}
	}
	f.words[s.Name] = 0
	return lists, api.OK
}

func (m *model) call(f modelFrame, s api.Stmt) (api.Leak, api.Errno) {
	args, places, errno := f.exprs(s.Args)
	if errno != api.OK {
		return api.Leak{}, errno
	}
	for _, fn := range m.p.Funcs {
		if fn.Name == s.Name {
			l, rets, errno := m.function(fn, args)
			for i, x := range rets {
				f.words[s.Names[i]] = x
			}
			return api.Leak{Kind: api.LeakCall, Items: places, Subs: [][]api.Leak{l}}, errno
		}
	}
	panic("no such function")
}

func (f modelFrame) exprs(l exprs) (words, places []uint64, errno api.Errno) {
	for _, e := range l {
		x, more, errno := f.expr(e)
		if errno != api.OK {
			return nil, nil, errno
		}
		words, places = append(words, x), append(places, more...)
	}
	return words, places, api.OK
}

func (f modelFrame) expr(e api.Expr) (uint64, []uint64, api.Errno) {
	l, places, errno := f.exprs(e.Args)
	if errno != api.OK {
		return 0, nil, errno
	}
	switch e.Op {
	case api.OpConst:
		return e.Word, nil, api.OK
	case api.OpVar:
		return f.words[e.Name], nil, api.OK
	case api.OpIndex:
		words := f.arrays[e.Name]
		if l[0] >= uint64(len(words)) {
			return 0, nil, api.ErrBounds
		}
		if f.stack[e.Name] {
			places = append(places, l[0])
		}
		return words[l[0]], places, api.OK
	}
	return modelOp(e.Op, append(l, 0, 0)), places, api.OK
}

// modelOp is what DOC.md says of an operation.
func modelOp(o api.Op, l []uint64) uint64 {
	one := map[bool]uint64{true: 1}
	a, b := l[0], l[1]
	switch o {
	case api.OpNot:
		return greatest - a
	case api.OpNeg:
		return 0 - a
	case api.OpAdd:
		return a + b
	case api.OpSub:
		return a - b
	case api.OpMul:
		return a * b
	case api.OpAnd:
		return a & b
	case api.OpOr:
		return a | b
	case api.OpXor:
		return a ^ b
	case api.OpShl:
		return a << (b & 63)
	case api.OpShr:
		return a >> (b & 63)
	case api.OpSar:
		return uint64(int64(a) >> (b & 63))
	case api.OpRol:
		return bits.RotateLeft64(a, int(b&63))
	case api.OpRor:
		return bits.RotateLeft64(a, 64-int(b&63))
	case api.OpEq:
		return one[a == b]
	case api.OpNe:
		return one[a != b]
	case api.OpLt:
		return one[a < b]
	case api.OpLe:
		return one[a <= b]
	}
	if a != 0 {
		return b
	}
	return l[2]
}
