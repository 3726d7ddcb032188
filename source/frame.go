package source

import (
	"muffle/api"
	"muffle/scope"
	"muffle/word"
)

// frame is what a function sees while it is run.
// What was never set is in no map: such a word is 0, such an array has 0s alone. So a call costs no more than what is done in it, however many variables it has.
type frame struct {
	p      *api.Program
	number int // the function's
	words  map[string]uint64
	arrays map[string][]uint64 // its own, and the regions, which all frames of a run share
}

// reckon is what an expression comes to. The places that it leaks are laid behind those ahead of it.
func (f *frame) reckon(e *api.Expr, places *[]uint64) uint64 {
	switch e.Op {
	case api.OpConst:
		return e.Word
	case api.OpVar:
		return f.words[e.Name]
	}
	args := make([]uint64, len(e.Args))
	for i := range e.Args {
		args[i] = f.reckon(&e.Args[i], places)
	}
	if e.Op == api.OpIndex {
		return f.read(e.Name, args[0], places)
	}
	// It refuses nothing that scope lets pass.
	x, _ := word.Eval(e.Op, args...)
	return x
}

func (f *frame) read(name string, at uint64, places *[]uint64) uint64 {
	f.touch(name, at, places)
	if l := f.arrays[name]; l != nil {
		return l[at]
	}
	return 0
}

func (f *frame) write(name string, at, x uint64, places *[]uint64) {
	size := f.touch(name, at, places)
	if f.arrays[name] == nil {
		f.arrays[name] = make([]uint64, size)
	}
	f.arrays[name][at] = x
}

// touch leaves with ErrBounds, if the array has not the place; else it leaks that, if it can be seen, and answers the array's Size.
func (f *frame) touch(name string, at uint64, places *[]uint64) int {
	v, _, _ := scope.Find(*f.p, f.number, name)
	if at >= uint64(v.Size) {
		panic(api.ErrBounds)
	}
	if v.Kind == api.VarStack {
		*places = append(*places, at)
	}
	return v.Size
}

// has tells whether each word and each array of an expression is there, and as long as it should be.
func (f *frame) has(e *api.Expr) bool {
	switch e.Op {
	case api.OpVar:
		if _, is := f.words[e.Name]; !is {
			return false
		}
	case api.OpIndex:
		if v, _, _ := scope.Find(*f.p, f.number, e.Name); len(f.arrays[e.Name]) != v.Size {
			return false
		}
	}
	for i := range e.Args {
		if !f.has(&e.Args[i]) {
			return false
		}
	}
	return true
}
