package leak_test

import (
	"testing"

	"muffle/api"
	"muffle/leak"
)

// P2.3: TermSame, TermNone and TermLines are of any node.
func TestRewriteAny(t *testing.T) {
	for what, n := range goodNodes() {
		l := list{n}
		wantRewritten(t, "same: "+what, terms(same()), l, false, l)
		wantRewritten(t, "none: "+what, terms(api.Term{Kind: api.TermNone}), l, false, nil)
		wantRewritten(t, "no lines: "+what, terms(lines()), l, false, nil)
		wantRewritten(t, "lines: "+what, terms(lines(nil, line(word(7), word(8)))), l, false, list{leak.Line(), leak.Line(7, 8)})
		if len(n.Items) > 0 {
			wantRewritten(t, "items: "+what, terms(lines(line(item(0)))), l, false, list{leak.Line(n.Items[0])})
		} else {
			wantRefused(t, "items: "+what, terms(lines(line(item(0)))), l, true, api.ErrArg)
		}
	}
	wantRewritten(t, "nothing", nil, nil, false, nil)
	wantRewritten(t, "nothing", []api.Term{}, list{}, true, nil)
}

// P2.3: each kind of pick; words modulo 2^64. (The tests' stack lies at 1000.)
func TestPicks(t *testing.T) {
	const all = ^uint64(0)
	for _, c := range []struct {
		pick api.Pick
		want uint64
	}{
		{item(0), 5}, {item(1), all}, {item(2), 1 << 61},
		{api.Pick{Kind: api.PickItem, Item: 0, Word: 9, Stack: true}, 5},
		{word(7), 7}, {word(all), all},
		{api.Pick{Kind: api.PickWord, Word: 7, Item: 99, Stack: true}, 7},
		{api.Pick{Kind: api.PickPlace, Word: 100}, 140},
		{api.Pick{Kind: api.PickPlace, Word: 100, Stack: true}, 1140},
		{api.Pick{Kind: api.PickPlace, Item: 1, Word: 3}, all - 4},
		{api.Pick{Kind: api.PickPlace, Item: 2, Word: 3}, 3},
		{api.Pick{Kind: api.PickPlace, Item: 0, Word: all}, 39},
		{api.Pick{Kind: api.PickPlace, Item: 0, Word: all - 39, Stack: true}, 1000},
		{api.Pick{Kind: api.PickAddr, Word: 16}, 16},
		{api.Pick{Kind: api.PickAddr, Word: 16, Stack: true}, 1016},
		{api.Pick{Kind: api.PickAddr, Word: all, Stack: true}, 999},
		{api.Pick{Kind: api.PickAddr, Word: 16, Item: 99}, 16},
	} {
		wantRewritten(t, "a pick", terms(lines(line(c.pick))), list{leak.Line(5, all, 1<<61)}, false, list{leak.Line(c.want)})
	}
	of := list{leak.Line(3, 1, 2)}
	wantRewritten(t, "picks in order", terms(lines(line(item(2), item(0), word(9), item(2)), line(), line(item(1)))), of, false, list{leak.Line(2, 3, 9, 2), leak.Line(), leak.Line(1)})
	wantRefused(t, "an item behind the last one", terms(lines(line(item(2)), line(item(3)))), of, false, api.ErrArg)
	for _, kind := range []api.PickKind{api.PickItem, api.PickPlace} {
		for _, i := range []int{3, 1 << 40, 1<<63 - 1} {
			wantRefused(t, "an item that is far off", terms(lines(line(word(1), api.Pick{Kind: kind, Item: i}, item(0)))), of, true, api.ErrArg)
		}
	}
	if got, e := leak.Rewrite(terms(lines(line(api.Pick{Kind: api.PickPlace, Word: 100, Stack: true}))), list{leak.Line(2)}, ^uint64(0), false); e != api.OK || !leak.Same(got, list{leak.Line(115)}) {
		t.Error(got, e)
	}
}

// P2.3: TermIf: which list rewrites, and where the items are told.
func TestRewriteIf(t *testing.T) {
	yes, no := terms(lines(line(word(1)))), terms(same(), lines(line(word(0))))
	bare := with(api.TermIf, yes, no)
	told := api.Term{Kind: api.TermIf, Lines: [][]api.Pick{{item(1)}, {word(6), item(0)}}, Subs: [][]api.Term{yes, no}}
	empty := api.Term{Kind: api.TermIf, Lines: [][]api.Pick{nil}, Taken: true, Subs: [][]api.Term{yes, no}}
	is, not := ifNode(true, at(4, 5), leak.Line(9)), ifNode(false, at(4, 5), leak.Line(8), leak.Line(9))
	wantRewritten(t, "taken", terms(bare), list{is}, false, list{ifNode(true, at(4, 5), leak.Line(1))})
	wantRewritten(t, "not taken", terms(bare), list{not}, false, list{ifNode(false, at(4, 5), leak.Line(8), leak.Line(0))})
	wantRewritten(t, "lines", terms(told), list{is}, false, list{leak.Line(5), leak.Line(6, 4), ifNode(true, nil, leak.Line(1))})
	wantRewritten(t, "lines, not taken", terms(told), list{not}, false, list{leak.Line(5), leak.Line(6, 4), ifNode(false, nil, leak.Line(8), leak.Line(0))})
	wantRewritten(t, "an empty line", terms(empty, empty), list{is, not}, false, list{leak.Line(), ifNode(true, nil, leak.Line(1)), leak.Line(), ifNode(false, nil, leak.Line(8), leak.Line(0))})
	wantRefused(t, "an item that it has not", terms(told), list{ifNode(true, at(4), leak.Line(9))}, false, api.ErrArg)
	wantRefused(t, "the other list's length", terms(bare), list{ifNode(true, nil, leak.Line(), leak.Line())}, false, api.ErrArg)
	wantRefused(t, "too few in it", terms(bare), list{ifNode(false, nil, leak.Line())}, false, api.ErrArg)
}

// P2.3: TermTaken: the list comes in the place of the node.
func TestRewriteTaken(t *testing.T) {
	sub := terms(same(), lines(line(item(0), item(0))))
	ahead := [][]api.Pick{{item(0), word(3)}, nil}
	for _, way := range []bool{true, false} {
		n := ifNode(way, at(4), leak.Line(1), leak.Line(2))
		wantRewritten(t, "bare", terms(taken(way, nil, sub...), same()), list{n, leak.Line(9)}, false, list{leak.Line(1), leak.Line(2, 2), leak.Line(9)})
		wantRewritten(t, "lines", terms(taken(way, ahead, sub...)), list{n}, false, list{leak.Line(4, 3), leak.Line(), leak.Line(1), leak.Line(2, 2)})
		wantRefused(t, "another Taken", terms(taken(!way, nil, sub...)), list{n}, false, api.ErrArg)
		wantRefused(t, "an item that it has not", terms(taken(way, [][]api.Pick{{item(1)}}, sub...)), list{n}, false, api.ErrArg)
		wantRefused(t, "too few terms", terms(taken(way, nil, same())), list{n}, true, api.ErrArg)
		wantRefused(t, "too many terms", terms(taken(way, nil, same(), same(), same())), list{n}, false, api.ErrArg)
		wantRewritten(t, "too many, broken off", terms(taken(way, nil, same(), same(), same())), list{n}, true, list{leak.Line(1), leak.Line(2)})
	}
}

// P2.3: TermLoop: lines ahead of each asking, and each round rewritten.
func TestRewriteLoop(t *testing.T) {
	body := terms(lines(line(item(0)), line(word(1))))
	bare, told := with(api.TermLoop, body), api.Term{Kind: api.TermLoop, Lines: [][]api.Pick{{item(0)}}, Subs: [][]api.Term{body}}
	whole := loopNode(ifNode(true, at(10, 11), leak.Line(1)), ifNode(true, at(20), leak.Line(2)), ifNode(false, at(30)))
	wantRewritten(t, "bare", terms(bare), list{whole}, false, list{loopNode(ifNode(true, at(10, 11), leak.Line(1), leak.Line(1)), ifNode(true, at(20), leak.Line(2), leak.Line(1)), ifNode(false, at(30)))})
	wantRewritten(t, "lines", terms(told), list{whole}, false, list{loopNode(leak.Line(10), ifNode(true, nil, leak.Line(1), leak.Line(1)), leak.Line(20), ifNode(true, nil, leak.Line(2), leak.Line(1)), leak.Line(30), ifNode(false, nil))})
	wantRewritten(t, "never begun", terms(bare, told), list{loopNode(ifNode(false, nil)), loopNode(ifNode(false, at(5)))}, false, list{loopNode(ifNode(false, nil)), loopNode(leak.Line(5), ifNode(false, nil))})
	wantRewritten(t, "a part of one, wherever it stands", terms(bare, told, same()), list{loopNode(), loopNode(ifNode(true, at(5), leak.Line(6))), leak.Line()}, false, list{loopNode(), loopNode(leak.Line(5), ifNode(true, nil, leak.Line(6), leak.Line(1))), leak.Line()})
	wantRefused(t, "an item that the last asking has not", terms(told), list{loopNode(ifNode(true, at(10), leak.Line(1)), ifNode(false, nil))}, false, api.ErrArg)
	wantRefused(t, "an item that the first asking has not", terms(told), list{loopNode(ifNode(true, nil, leak.Line(1)), ifNode(false, at(10)))}, false, api.ErrArg)
	wantRefused(t, "a round with too few nodes", terms(bare), list{loopNode(ifNode(true, nil), ifNode(false, nil))}, true, api.ErrArg)
	wantRefused(t, "the last round with too few", terms(bare), list{loopNode(ifNode(true, nil, leak.Line(1)), ifNode(true, nil))}, false, api.ErrArg)
	wantRefused(t, "a round with too many nodes", terms(bare), list{loopNode(ifNode(true, nil, leak.Line(1), leak.Line(1)), ifNode(false, nil))}, true, api.ErrArg)
	wantRewritten(t, "the last round with too few, broken off", terms(bare), list{loopNode(ifNode(true, nil, leak.Line(1)), ifNode(true, nil))}, true, list{loopNode(ifNode(true, nil, leak.Line(1), leak.Line(1)), ifNode(true, nil))})
}

// P2.3: a loop's list with lines: they stay as they are.
func TestRewriteLoopWithLines(t *testing.T) {
	told := api.Term{Kind: api.TermLoop, Lines: [][]api.Pick{{item(0)}}, Subs: [][]api.Term{{lines(line(word(1)))}}}
	l := list{loopNode(leak.Line(), leak.Line(7, 8), ifNode(true, at(9), leak.Line(2)), leak.Line(6), ifNode(true, at(9), leak.Line(2)), leak.Line(5))}
	want := list{loopNode(leak.Line(), leak.Line(7, 8), leak.Line(9), ifNode(true, nil, leak.Line(1)), leak.Line(6), leak.Line(9), ifNode(true, nil, leak.Line(1)), leak.Line(5))}
	wantRewritten(t, "lines ahead, between and behind", terms(told), l, false, want)
	wantRewritten(t, "the same, broken off", terms(told), l, true, want)
	wantRewritten(t, "lines alone", terms(told), list{loopNode(leak.Line(1), leak.Line(2))}, false, list{loopNode(leak.Line(1), leak.Line(2))})
	// The round ahead of a line has come to its end.
	wantRefused(t, "a part ahead of a line", terms(told), list{loopNode(ifNode(true, at(9)), leak.Line(5))}, true, api.ErrArg)
	got, e := leak.Through([][]api.Term{{told}, {with(api.TermLoop, terms(same()))}}, list{loopNode(ifNode(true, at(3), leak.Line(4)), ifNode(false, at(5)))}, 0, false)
	if e != api.OK {
		t.Error(e)
	}
	wantSame(t, "twice", got, list{loopNode(leak.Line(3), ifNode(true, nil, leak.Line(1)), leak.Line(5), ifNode(false, nil))})
}

// P2.3: TermFor and TermEach: rounds.
func TestRewriteFor(t *testing.T) {
	l := list{forNode(list{leak.Line(1)}, nil, list{leak.Line(2), leak.Line(3)}), leak.Line(9)}
	own := with(api.TermFor, terms(lines(line(word(5)), line(item(0)))), nil, terms(same(), lines()))
	wantRewritten(t, "for", terms(own, same()), l, false, list{leak.Line(5), leak.Line(1), leak.Line(2), leak.Line(9)})
	wantRewritten(t, "for without rounds", terms(with(api.TermFor)), list{forNode()}, false, nil)
	wantRewritten(t, "each without rounds", terms(with(api.TermEach, terms(same()))), list{forNode()}, false, list{forNode()})
	wantRewritten(t, "each", terms(with(api.TermEach, terms(lines(line(item(0), item(0)))))), list{forNode(list{leak.Line(1)}, list{leak.Line(2)})}, false, list{forNode(list{leak.Line(1, 1)}, list{leak.Line(2, 2)})})
	wantRewritten(t, "each of nothing", terms(with(api.TermEach, nil)), list{forNode(nil, nil)}, false, list{forNode(nil, nil)})
	wantRefused(t, "each, one of them longer", terms(with(api.TermEach, terms(same())), same()), l, false, api.ErrArg)
	one := list{leak.Line(1)}
	three := with(api.TermFor, terms(same()), terms(same()), terms(same()))
	wantRefused(t, "more rounds than terms", terms(three), list{forNode(one, one, one, one)}, true, api.ErrArg)
	wantRefused(t, "fewer rounds than terms", terms(three), list{forNode(one, one)}, false, api.ErrArg)
	wantRewritten(t, "fewer rounds than terms, broken off", terms(three), list{forNode(one, one)}, true, list{leak.Line(1), leak.Line(1)})
	wantRewritten(t, "no rounds, broken off", terms(three), list{forNode()}, true, nil)
	wantRewritten(t, "the last one a part", terms(three), list{forNode(one, nil)}, true, one)
	wantRewritten(t, "the last one of all a part", terms(three), list{forNode(one, one, nil)}, true, list{leak.Line(1), leak.Line(1)})
	wantRefused(t, "the first one a part", terms(three), list{forNode(nil, one)}, true, api.ErrArg)
	wantRefused(t, "fewer rounds, and not last", terms(three, same()), list{forNode(one, one), leak.Line()}, true, api.ErrArg)
	each := with(api.TermEach, terms(same()))
	wantRewritten(t, "each, the last one a part", terms(each), list{forNode(one, nil)}, true, list{forNode(one, nil)})
	wantRefused(t, "each, the first one a part", terms(each), list{forNode(nil, one)}, true, api.ErrArg)
	wantRefused(t, "each, not broken off", terms(each), list{forNode(one, nil)}, false, api.ErrArg)
}

// P2.3: TermCall: lines, the function's list, and what stands behind a call that came back.
func TestRewriteCall(t *testing.T) {
	behind := terms(lines(nil), lines(), lines(line(word(1), api.Pick{Kind: api.PickAddr, Word: 2, Stack: true}), nil))
	call := api.Term{Kind: api.TermCall, Lines: [][]api.Pick{{item(1)}, {item(0)}}, Subs: [][]api.Term{{same(), lines(line(item(0)), nil)}, behind}}
	ahead, back := list{leak.Line(5), leak.Line(4)}, list{leak.Line(), leak.Line(1, 1002), leak.Line()}
	n := callNode(at(4, 5), leak.Line(1), leak.Line(2))
	whole := append(append(ahead, leak.Line(1), leak.Line(2), leak.Line()), back...)
	wantRewritten(t, "a call", terms(call, same()), list{n, leak.Line(9)}, false, append(whole[:len(whole):len(whole)], leak.Line(9)))
	wantRewritten(t, "a call, its list not shorter", terms(call), list{n}, true, whole)
	wantRewritten(t, "a call, broken off in it", terms(call, same()), list{callNode(at(4, 5), leak.Line(1))}, true, list{leak.Line(5), leak.Line(4), leak.Line(1)})
	wantRewritten(t, "a call, broken off ahead of it all", terms(call), list{callNode(at(4, 5))}, true, list{leak.Line(5), leak.Line(4)})
	wantRefused(t, "a call with too few", terms(call), list{callNode(at(4, 5), leak.Line(1))}, false, api.ErrArg)
	wantRefused(t, "a call with too few, and not last", terms(call, same()), list{callNode(at(4, 5), leak.Line(1)), leak.Line()}, true, api.ErrArg)
	wantRefused(t, "a call with too many", terms(call), list{callNode(at(4, 5), leak.Line(1), leak.Line(2), leak.Line(3))}, true, api.ErrArg)
	wantRefused(t, "an item that it has not", terms(call), list{callNode(at(4), leak.Line(1), leak.Line(2))}, false, api.ErrArg)
	wantRewritten(t, "nothing", terms(with(api.TermCall, nil, behind)), list{callNode(at(4, 5))}, false, back)
	empty := terms(with(api.TermCall, nil, nil))
	wantRewritten(t, "nothing at all", empty, list{callNode(at(4, 5))}, false, nil)
}

// P2.3: a term does not fit another kind of node.
func TestRewriteOtherKind(t *testing.T) {
	nodes := map[api.LeakKind]api.Leak{1: leak.Line(), 2: ifNode(true, nil), 3: loopNode(), 4: forNode(), 5: callNode(nil)}
	for _, x := range []struct {
		term api.Term
		fits api.LeakKind
	}{
		{with(api.TermIf, nil, nil), api.LeakIf},
		{taken(true, nil), api.LeakIf},
		{taken(false, nil), 0},
		{with(api.TermLoop, nil), api.LeakLoop},
		{with(api.TermFor), api.LeakFor},
		{with(api.TermCall, nil, nil), api.LeakCall},
		{with(api.TermEach, nil), api.LeakFor},
	} {
		for kind, n := range nodes {
			for _, broken := range []bool{false, true} {
				if kind != x.fits {
					wantRefused(t, "another kind", terms(x.term), list{n}, broken, api.ErrArg)
				} else if _, e := leak.Rewrite(terms(x.term), list{n}, 0, broken); e != api.OK {
					t.Errorf("term %d of node %d: %v", x.term.Kind, kind, e)
				}
			}
		}
	}
}

// P2.3: as many terms as nodes; where a list broke off there may be fewer nodes, down to the last one alone.
func TestRewriteNumbers(t *testing.T) {
	two := list{leak.Line(1), leak.Line(2)}
	wantRefused(t, "no terms", nil, two, true, api.ErrArg)
	wantRefused(t, "more nodes", terms(same()), two, true, api.ErrArg)
	wantRefused(t, "fewer nodes", terms(same(), same(), same()), two, false, api.ErrArg)
	wantRefused(t, "no nodes", terms(same()), nil, false, api.ErrArg)
	wantRewritten(t, "fewer nodes, broken off", terms(same(), same(), same()), two, true, two)
	wantRewritten(t, "no nodes, broken off", terms(same()), nil, true, nil)
	branch := with(api.TermIf, terms(same(), same()), terms(same(), same()))
	part, full := ifNode(false, nil, leak.Line(1)), ifNode(false, nil, leak.Line(1), leak.Line(2))
	wantRewritten(t, "the last one a part", terms(branch, branch), list{full, part}, true, list{full, part})
	wantRewritten(t, "the last one of fewer a part", terms(branch, branch), list{part}, true, list{part})
	wantRefused(t, "the last one a part, not broken off", terms(branch, branch), list{full, part}, false, api.ErrArg)
	wantRefused(t, "the first one a part", terms(branch, branch), list{part, full}, true, api.ErrArg)
	deep := with(api.TermIf, terms(same(), with(api.TermLoop, terms(with(api.TermEach, terms(branch, same()))))), nil)
	l := list{ifNode(true, nil, leak.Line(), loopNode(ifNode(true, nil, forNode(list{full, leak.Line()}, list{part}))))}
	wantRewritten(t, "a part, all the way down", terms(deep, same()), l, true, l)
	wantRefused(t, "a part, all the way down, not broken off", terms(deep), l, false, api.ErrArg)
	behind := list{ifNode(true, nil, leak.Line(), loopNode(ifNode(true, nil, forNode(list{full, leak.Line()}, list{part, leak.Line()}))))}
	wantRefused(t, "a part, and something behind it", terms(deep), behind, true, api.ErrArg)
}

// P2.3: what comes of it may have exactly MaxNodes nodes and items; ErrArg is ahead of that ErrLong.
func TestRewriteLong(t *testing.T) {
	many := make([][]api.Pick, 1000)
	for i := range many {
		many[i] = make([]api.Pick, 999)
		for j := range many[i] {
			many[i][j] = word(uint64(j))
		}
	}
	all := api.Term{Kind: api.TermLines, Lines: many}
	if got, e := leak.Rewrite(terms(all, lines()), list{leak.Line(), leak.Line()}, 0, false); e != api.OK || leak.Count(got) != 1000000 {
		t.Error(e, leak.Count(got))
	}
	two := list{leak.Line(), leak.Line()}
	wantRefused(t, "a line more", terms(all, lines(nil)), two, false, api.ErrLong)
	wantRefused(t, "a node more", terms(same(), all), two, false, api.ErrLong)
	wantRefused(t, "a branch more", terms(all, api.Term{Kind: api.TermIf, Lines: nil, Subs: [][]api.Term{nil, nil}}), list{leak.Line(), ifNode(true, nil)}, false, api.ErrLong)
	wantRefused(t, "behind a call", terms(with(api.TermCall, terms(all), terms(lines(nil)))), list{callNode(nil, leak.Line())}, false, api.ErrLong)
	wantRefused(t, "too long, and behind it another kind", terms(all, all, with(api.TermFor)), append(two, leak.Line()), false, api.ErrArg)
	wantRefused(t, "too long, and behind it too few terms", terms(all, with(api.TermIf, nil, nil)), list{leak.Line(), ifNode(true, nil, leak.Line())}, true, api.ErrArg)
	wantRefused(t, "too long, and behind it an item", terms(all, all, lines(line(item(0)))), append(two, leak.Line()), false, api.ErrArg)
	// Far more than there is room for: a loop that asks for it over and over.
	asks := make(list, 100001)
	for i := range asks {
		asks[i] = ifNode(true, nil, leak.Line(), callNode(nil))
	}
	asks[len(asks)-1] = ifNode(false, nil)
	empty := make([]api.Term, 100000)
	for i := range empty {
		empty[i] = lines()
	}
	body := terms(all, with(api.TermCall, nil, append(empty, all)))
	wantRefused(t, "far too long", terms(with(api.TermLoop, body)), list{loopNode(asks...)}, false, api.ErrLong)
	wantRefused(t, "far too long, and behind it another kind", terms(with(api.TermLoop, body), with(api.TermIf, nil, nil)), list{loopNode(asks...), leak.Line()}, false, api.ErrArg)
}

// P2.3: Through: one list behind the other, and the first error.
func TestThrough(t *testing.T) {
	l := list{callNode(at(2), leak.Line(1)), leak.Line(3)}
	inlined := terms(api.Term{Kind: api.TermCall, Lines: [][]api.Pick{{item(0)}}, Subs: [][]api.Term{{same()}, {lines(nil)}}}, same())
	placed := make([]api.Term, 4)
	for i := range placed {
		placed[i] = lines(line(word(uint64(i))))
	}
	placed[1] = lines(line(api.Pick{Kind: api.PickPlace, Word: 100, Stack: true}))
	steps := [][]api.Term{inlined, placed, {same(), same(), {Kind: api.TermNone}, same()}}
	for n, want := range []list{
		l,
		{leak.Line(2), leak.Line(1), leak.Line(), leak.Line(3)},
		{leak.Line(0), leak.Line(2108), leak.Line(2), leak.Line(3)},
		{leak.Line(0), leak.Line(2108), leak.Line(3)},
	} {
		got, e := leak.Through(steps[:n], l, 2000, false)
		if e != api.OK {
			t.Error(n, e)
		}
		wantSame(t, "through some", got, want)
	}
	// A part of it, through the same terms.
	got, e := leak.Through(steps, list{callNode(at(2))}, 2000, true)
	if e != api.OK {
		t.Error(e)
	}
	wantSame(t, "a part", got, list{leak.Line(0)})
	if got, e := leak.Through(steps, list{callNode(at(2))}, 2000, false); e != api.ErrArg || got != nil {
		t.Error(got, e)
	}
	tooMany := lines(make([][]api.Pick, 1000001)...)
	for what, c := range map[string]struct {
		all  [][]api.Term
		want api.Errno
	}{
		"the second one does not fit": {[][]api.Term{inlined, inlined}, api.ErrArg},
		"the first one is too long":   {[][]api.Term{{same(), tooMany}, inlined}, api.ErrLong},
		"the second one is too long":  {[][]api.Term{inlined, {same(), same(), same(), tooMany}, {{}}}, api.ErrLong},
		"the first one does not fit":  {[][]api.Term{{{Kind: 20}}, {same(), tooMany}}, api.ErrArg},
		"the last one may not be":     {[][]api.Term{inlined, placed, {{}}}, api.ErrArg},
		"an empty one among them":     {[][]api.Term{inlined, nil, placed}, api.ErrArg},
	} {
		if got, e := leak.Through(c.all, l, 0, false); e != c.want || len(got) > 0 {
			t.Errorf("%s: %v, not %v", what, e, c.want)
		}
	}
}
