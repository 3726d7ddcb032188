package leak

import "muffle/api"

// rewriter is one rewriting.
// A term that does not fit its node leaves by a panic with ErrArg; it is told ahead of what is too long, so all of a leakage is gone through.
type rewriter struct {
	stack uint64
	deeds map[api.TermKind]deed
	laid  int // nodes and items of all lines that should come, be they made or not
}

// deed lays what becomes of a node behind what came ahead of it.
// Where broken is told of a node, it may be a part: it is the last one of a list that is broken off.
type deed func(r *rewriter, out []api.Leak, t *recipe, n *api.Leak, broken bool) []api.Leak

func deeds() map[api.TermKind]deed {
	return map[api.TermKind]deed{
		api.TermSame:  (*rewriter).same,
		api.TermLines: (*rewriter).onlyLines,
		api.TermIf:    (*rewriter).branch,
		api.TermTaken: (*rewriter).way,
		api.TermLoop:  (*rewriter).loop,
		api.TermFor:   (*rewriter).rounds,
		api.TermCall:  (*rewriter).call,
		api.TermNone:  (*rewriter).none,
		api.TermEach:  (*rewriter).each,
	}
}

func (r *rewriter) list(out []api.Leak, t []recipe, l []api.Leak, broken bool) []api.Leak {
	mustBeAsMany(len(t), len(l), broken)
	for i := range l {
		out = r.deeds[t[i].kind](r, out, &t[i], &l[i], broken && i == len(l)-1)
	}
	return out
}

func (r *rewriter) same(out []api.Leak, _ *recipe, n *api.Leak, _ bool) []api.Leak {
	return append(out, copyNode(n))
}

func (r *rewriter) none(out []api.Leak, _ *recipe, _ *api.Leak, _ bool) []api.Leak {
	return out
}

func (r *rewriter) onlyLines(out []api.Leak, t *recipe, n *api.Leak, _ bool) []api.Leak {
	return r.lay(out, t.ahead, n.Items)
}

func (r *rewriter) branch(out []api.Leak, t *recipe, n *api.Leak, broken bool) []api.Leak {
	must(n.Kind == api.LeakIf)
	if n.Taken {
		return r.asking(out, t.ahead, t.subs[0], n, broken)
	}
	return r.asking(out, t.ahead, t.subs[1], n, broken)
}

func (r *rewriter) way(out []api.Leak, t *recipe, n *api.Leak, broken bool) []api.Leak {
	must(n.Kind == api.LeakIf && n.Taken == t.taken)
	out = r.lay(out, t.ahead, n.Items)
	return r.list(out, t.subs[0], n.Subs[0], broken)
}

func (r *rewriter) loop(out []api.Leak, t *recipe, n *api.Leak, broken bool) []api.Leak {
	must(n.Kind == api.LeakLoop)
	var list []api.Leak
	for i := range n.Subs[0] {
		x := &n.Subs[0][i]
		switch {
		case x.Kind == api.LeakLine:
			// It came of an asking, but is none.
			list = append(list, copyNode(x))
		case x.Taken:
			list = r.asking(list, t.ahead, t.subs[0], x, broken && i == len(n.Subs[0])-1)
		default:
			// No round was begun, so there is nothing for the terms of one.
			list = r.asking(list, t.ahead, nil, x, false)
		}
	}
	return append(out, api.Leak{Kind: api.LeakLoop, Subs: [][]api.Leak{list}})
}

func (r *rewriter) rounds(out []api.Leak, t *recipe, n *api.Leak, broken bool) []api.Leak {
	must(n.Kind == api.LeakFor)
	mustBeAsMany(len(t.subs), len(n.Subs), broken)
	for i, sub := range n.Subs {
		out = r.list(out, t.subs[i], sub, broken && i == len(n.Subs)-1)
	}
	return out
}

func (r *rewriter) each(out []api.Leak, t *recipe, n *api.Leak, broken bool) []api.Leak {
	must(n.Kind == api.LeakFor)
	x := api.Leak{Kind: api.LeakFor}
	for i, sub := range n.Subs {
		x.Subs = append(x.Subs, r.list(nil, t.subs[0], sub, broken && i == len(n.Subs)-1))
	}
	return append(out, x)
}

func (r *rewriter) call(out []api.Leak, t *recipe, n *api.Leak, broken bool) []api.Leak {
	must(n.Kind == api.LeakCall)
	out = r.lay(out, t.ahead, n.Items)
	out = r.list(out, t.subs[0], n.Subs[0], broken)
	if len(n.Subs[0]) < len(t.subs[0]) {
		// The call did not come back.
		return out
	}
	return r.lay(out, t.behind, nil)
}

// asking lays lines and a branch behind out. The lines tell its items, if there are any.
func (r *rewriter) asking(out []api.Leak, ahead lines, t []recipe, n *api.Leak, broken bool) []api.Leak {
	x := api.Leak{Kind: api.LeakIf, Taken: n.Taken}
	if len(ahead.picks) == 0 {
		x.Items = copyItems(n.Items)
	}
	out = r.lay(out, ahead, n.Items)
	x.Subs = [][]api.Leak{r.list(nil, t, n.Subs[0], broken)}
	return append(out, x)
}

// lay lays the lines that are made of items behind out.
// When there are too many, none are made any more: a loop could ask for far more than there is room for.
func (r *rewriter) lay(out []api.Leak, l lines, items []uint64) []api.Leak {
	must(l.item < len(items))
	r.laid += l.size
	if r.laid > api.MaxNodes {
		return out
	}
	for _, picks := range l.picks {
		x := api.Leak{Kind: api.LeakLine}
		for _, p := range picks {
			x.Items = append(x.Items, r.picked(p, items))
		}
		out = append(out, x)
	}
	return out
}

func (r *rewriter) picked(p api.Pick, items []uint64) uint64 {
	at := p.Word
	switch p.Kind {
	case api.PickItem:
		return items[p.Item]
	case api.PickPlace:
		at += 8 * items[p.Item]
		fallthrough
	case api.PickAddr:
		if p.Stack {
			at += r.stack
		}
	}
	return at
}

func must(is bool) {
	if !is {
		panic(api.ErrArg)
	}
}

func mustBeAsMany(terms, parts int, broken bool) {
	must(parts == terms || broken && parts < terms)
}
