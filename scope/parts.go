package scope

import (
	"slices"

	"muffle/api"
)

// wordBytes is how many bytes a word has.
const wordBytes = 8

// mustBeFew asks of the whole program how many parts it has.
func mustBeFew(p api.Program) {
	few := func(n, least, most int) {
		must(n >= least && n <= most, api.ErrMany)
	}
	few(len(p.Regions), 0, api.MaxRegions)
	few(len(p.Funcs), 1, api.MaxFuncs)
	for _, r := range p.Regions {
		few(r.Size, 1, api.MaxWords)
	}
	for i := range p.Funcs {
		f := &p.Funcs[i]
		few(len(f.Params)+len(f.Vars), 0, api.MaxVars)
		few(len(f.Rets), 0, api.MaxVars)
		for _, vars := range [2][]api.Var{f.Params, f.Vars} {
			for _, v := range vars {
				if v.Kind == api.VarArray || v.Kind == api.VarStack {
					few(v.Size, 1, api.MaxWords)
				}
			}
		}
	}
	few(Size(p), 0, api.MaxSize)
}

// mustBeNamed asks of the whole program its names: those of regions and functions, and of each function those that it has within.
func mustBeNamed(p api.Program) {
	global := names()
	for _, r := range p.Regions {
		global(r.Name)
	}
	for _, f := range p.Funcs {
		global(f.Name)
		mustNameOwn(f, p.Regions)
	}
}

// mustNameOwn asks of a function the names of its variables, which no region may have, and its Rets.
func mustNameOwn(f api.Func, regions []api.Region) {
	variable, ret := names(), names()
	for _, r := range regions {
		variable(r.Name)
	}
	vars := slices.Concat(f.Params, f.Vars)
	for _, v := range vars {
		variable(v.Name)
	}
	for _, name := range f.Rets {
		ret(name)
		must(slices.ContainsFunc(vars, func(v api.Var) bool { return v.Name == name && v.Kind == api.VarReg }), api.ErrName)
	}
}

// mustLie asks of regions, each of a Size that may be, where they lie.
func mustLie(l []api.Region) {
	for i, r := range l {
		// What is taken from StackLow is small; an end that is reckoned of any Addr could be too great for an int.
		must(r.Addr >= 0 && r.Addr%wordBytes == 0 && r.Addr <= api.StackLow-bytesOf(r), api.ErrBounds)
		for _, other := range l[:i] {
			must(r.Addr >= other.Addr+bytesOf(other) || other.Addr >= r.Addr+bytesOf(r), api.ErrBounds)
		}
	}
}

func bytesOf(r api.Region) int {
	return r.Size * wordBytes
}

// names makes what asks of each name that it is handed, whether it is one, and new to it.
func names() func(name string) {
	seen := map[string]int{}
	return func(name string) {
		must(isName(name) && seen[name] == 0, api.ErrName)
		seen[name]++
	}
}

// mustBeVars asks of a function's variables what they are.
func mustBeVars(f api.Func) {
	for _, v := range f.Params {
		must(v.Kind == api.VarReg && v.Size == 0, api.ErrKind)
	}
	for _, v := range f.Vars {
		switch v.Kind {
		case api.VarReg:
			must(v.Size == 0 && !v.Secret, api.ErrKind)
		case api.VarArray, api.VarStack:
		default:
			panic(api.ErrKind)
		}
	}
}
