package leak

import "muffle/api"

// Rewrite is a leakage rewritten by terms, one for each node.
func Rewrite(t []api.Term, l []api.Leak, stack uint64, broken bool) ([]api.Leak, api.Errno) {
	if errno := check(l); errno != api.OK {
		return nil, errno
	}
	if !Terms(t) {
		return nil, api.ErrArg
	}
	r := rewriter{stack: stack, deeds: deeds()}
	var out []api.Leak
	errno := caught(func() { out = r.list(nil, recipes(t), l, broken) })
	if errno != api.OK {
		return nil, errno
	}
	if r.laid > api.MaxNodes || Count(out) > api.MaxNodes {
		return nil, api.ErrLong
	}
	return out, api.OK
}

// Through is a leakage rewritten by several lists of terms, one behind the other.
func Through(all [][]api.Term, l []api.Leak, stack uint64, broken bool) ([]api.Leak, api.Errno) {
	if len(all) == 0 {
		// Only a rewriting refuses: where there is none, a leakage that may not be is answered, too.
		return copyList(l), api.OK
	}
	out := l
	for _, t := range all {
		var errno api.Errno
		if out, errno = Rewrite(t, out, stack, broken); errno != api.OK {
			return nil, errno
		}
	}
	return out, api.OK
}

// recipe is a term made ready: what its lines ask and come to is found once, however often a loop has it done.
type recipe struct {
	kind          api.TermKind
	taken         bool
	ahead, behind lines
	subs          [][]recipe
}

type lines struct {
	picks [][]api.Pick
	item  int // the greatest one that is picked
	size  int // how many nodes and items come of it
}

// recipes makes terms that may be ready.
func recipes(l []api.Term) []recipe {
	out := make([]recipe, len(l))
	for i, t := range l {
		out[i] = recipe{kind: t.Kind, taken: t.Taken, ahead: linesOf(t.Lines)}
		subs := t.Subs
		if t.Kind == api.TermCall {
			out[i].behind = linesOf(allLines(subs[1]))
			subs = subs[:1]
		}
		for _, sub := range subs {
			out[i].subs = append(out[i].subs, recipes(sub))
		}
	}
	return out
}

func linesOf(picks [][]api.Pick) lines {
	l := lines{picks: picks, item: greatest(picks), size: len(picks)}
	for _, line := range picks {
		l.size += len(line)
	}
	return l
}

func allLines(l []api.Term) [][]api.Pick {
	var out [][]api.Pick
	for _, t := range l {
		out = append(out, t.Lines...)
	}
	return out
}
