package fold

import (
	"maps"

	"muffle/api"
	"muffle/word"
)

// numbers are what words are known to be.
type numbers map[string]uint64

// atFirst is what is known ahead of a function's Body.
func atFirst(f *api.Func) numbers {
	k := numbers{}
	for _, v := range f.Vars {
		if v.Kind == api.VarReg {
			k[v.Name] = 0
		}
	}
	return k
}

func (k numbers) copied() numbers {
	return maps.Clone(k)
}

// learn makes of a word what it was set to, be that a number or not.
func (k numbers) learn(name string, e api.Expr) {
	if e.Op == api.OpConst {
		k[name] = e.Word
	} else {
		delete(k, name)
	}
}

func (k numbers) forget(names []string) {
	for _, name := range names {
		delete(k, name)
	}
}

// meet leaves what others know, too, to be the same number.
func (k numbers) meet(others numbers) {
	maps.DeleteFunc(k, func(name string, n uint64) bool {
		other, is := others[name]
		return !is || other != n
	})
}

// expr is an expression in new memory, folded.
func (k numbers) expr(e api.Expr) api.Expr {
	return k.folded(e).e
}

// part is an expression that is folded, and whether it is safe.
// That is told beside it, since each pick around it asks for it: gone through anew each time, deep ones would take far too long.
type part struct {
	e    api.Expr
	safe bool
}

func number(n uint64) part {
	return part{api.Expr{Op: api.OpConst, Word: n}, true}
}

func (k numbers) folded(e api.Expr) part {
	if n, is := k[e.Name]; is && e.Op == api.OpVar {
		return number(n)
	}
	var args []part
	for _, arg := range e.Args {
		args = append(args, k.folded(arg))
	}
	if word.Args(e.Op) != len(args) {
		return withArgs(e, args)
	}
	if words := wordsOf(args); len(words) == len(args) {
		n, _ := word.Eval(e.Op, words...)
		return number(n)
	}
	if e.Op == api.OpPick && args[0].e.Op == api.OpConst {
		chosen, other := args[1], args[2]
		if args[0].e.Word == 0 {
			chosen, other = other, chosen
		}
		// What may fail is reckoned nevertheless, and what it reads is leaked.
		if other.safe {
			return chosen
		}
	}
	return withArgs(e, args)
}

// wordsOf are the numbers at the beginning of a list.
func wordsOf(args []part) []uint64 {
	var l []uint64
	for i := range args {
		if args[i].e.Op != api.OpConst {
			break
		}
		l = append(l, args[i].e.Word)
	}
	return l
}

// withArgs is an expression whose Args are these.
func withArgs(e api.Expr, args []part) part {
	safe := e.Op != api.OpIndex
	e.Args = nil
	for _, arg := range args {
		e.Args = append(e.Args, arg.e)
		safe = safe && arg.safe
	}
	return part{e, safe}
}
