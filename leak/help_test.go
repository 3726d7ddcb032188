package leak_test

import (
	"testing"

	"muffle/api"
	"muffle/leak"
)

// list is a list of nodes, told shortly.
type list = []api.Leak

func ifNode(taken bool, items []uint64, sub ...api.Leak) api.Leak {
	return api.Leak{Kind: api.LeakIf, Taken: taken, Items: items, Subs: []list{sub}}
}

func loopNode(sub ...api.Leak) api.Leak {
	return api.Leak{Kind: api.LeakLoop, Subs: []list{sub}}
}

func forNode(rounds ...list) api.Leak {
	return api.Leak{Kind: api.LeakFor, Subs: rounds}
}

func callNode(items []uint64, sub ...api.Leak) api.Leak {
	return api.Leak{Kind: api.LeakCall, Items: items, Subs: []list{sub}}
}

func at(items ...uint64) []uint64 { return items }

// allKinds has a node of each kind.
func allKinds() list {
	return list{
		leak.Line(1, 2),
		ifNode(true, at(3), leak.Line(4)),
		ifNode(false, at(5), leak.Line(6)),
		loopNode(ifNode(true, at(7), leak.Line(8)), ifNode(true, at(9), leak.Line(10)), ifNode(false, at(11))),
		forNode(list{leak.Line(12)}, list{leak.Line(13)}),
		callNode(at(14, 15), leak.Line(16)),
	}
}

// nested is a node that is so deep as said, of branches within each other; deep is what lies lowest.
func nested(deep int, lowest api.Leak) api.Leak {
	for range deep - 1 {
		lowest = ifNode(true, nil, lowest)
	}
	return lowest
}

// wide is a line that has, with its items, so many nodes and items.
func wide(n int) api.Leak {
	return leak.Line(make([]uint64, n-1)...)
}

func same() api.Term { return api.Term{Kind: api.TermSame} }

func lines(l ...[]api.Pick) api.Term { return api.Term{Kind: api.TermLines, Lines: l} }

func item(i int) api.Pick { return api.Pick{Kind: api.PickItem, Item: i} }

func word(w uint64) api.Pick { return api.Pick{Kind: api.PickWord, Word: w} }

func line(l ...api.Pick) []api.Pick { return l }

func with(kind api.TermKind, subs ...[]api.Term) api.Term { return api.Term{Kind: kind, Subs: subs} }

func terms(l ...api.Term) []api.Term { return l }

// taken is a TermTaken of that way.
func taken(way bool, ahead [][]api.Pick, sub ...api.Term) api.Term {
	return api.Term{Kind: api.TermTaken, Taken: way, Lines: ahead, Subs: [][]api.Term{sub}}
}

func wantSame(t *testing.T, what string, got, want list) {
	t.Helper()
	if !leak.Same(got, want) {
		t.Errorf("%s: %v, not %v", what, got, want)
	}
}

func wantRewritten(t *testing.T, what string, l []api.Term, of list, broken bool, want list) {
	t.Helper()
	got, e := leak.Rewrite(l, of, 1000, broken)
	if e != api.OK {
		t.Errorf("%s: %v", what, e)
	}
	wantSame(t, what, got, want)
	if !leak.May(got) {
		t.Errorf("%s: what comes may not be: %v", what, got)
	}
}

func wantRefused(t *testing.T, what string, l []api.Term, of list, broken bool, want api.Errno) {
	t.Helper()
	if got, e := leak.Rewrite(l, of, 1000, broken); e != want || len(got) > 0 {
		t.Errorf("Rewrite of %s: %v, and %d nodes; not %v", what, e, len(got), want)
	}
	if got, e := leak.Through([][]api.Term{l}, of, 1000, broken); e != want || len(got) > 0 {
		t.Errorf("Through of %s: %v, and %d nodes; not %v", what, e, len(got), want)
	}
}

// wantThroughNone asks that no terms leave a leakage as it was, whatever it is.
func wantThroughNone(t *testing.T, what string, l list) {
	t.Helper()
	for _, none := range [][][]api.Term{nil, {}} {
		for _, broken := range []bool{false, true} {
			if got, e := leak.Through(none, l, 1000, broken); e != api.OK || !leak.Same(got, l) {
				t.Errorf("Through of none, of %s: %v, and %d nodes", what, e, len(got))
			}
		}
	}
}
