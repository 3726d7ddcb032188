package leak_test

import (
	"testing"

	"muffle/api"
	"muffle/leak"
)

// badNodes are nodes that may not be, each for one cause.
func badNodes() map[string]api.Leak {
	none := []list{nil}
	return map[string]api.Leak{
		"kind 0":                   {},
		"kind 6":                   {Kind: 6},
		"kind 6 with a list":       {Kind: 6, Subs: none},
		"kind below 0":             {Kind: -1},
		"a line that is taken":     {Kind: api.LeakLine, Taken: true},
		"a line with a list":       {Kind: api.LeakLine, Subs: none},
		"an if without a list":     {Kind: api.LeakIf},
		"an if with two lists":     {Kind: api.LeakIf, Taken: true, Subs: []list{nil, nil}},
		"a loop without a list":    {Kind: api.LeakLoop},
		"a loop with two lists":    {Kind: api.LeakLoop, Subs: []list{nil, nil}},
		"a loop that is taken":     {Kind: api.LeakLoop, Taken: true, Subs: none},
		"a loop with items":        {Kind: api.LeakLoop, Items: at(1), Subs: none},
		"a for that is taken":      {Kind: api.LeakFor, Taken: true},
		"a for with items":         {Kind: api.LeakFor, Items: at(1), Subs: none},
		"a call without a list":    {Kind: api.LeakCall},
		"a call with two lists":    {Kind: api.LeakCall, Subs: []list{nil, nil}},
		"a call that is taken":     {Kind: api.LeakCall, Taken: true, Subs: none},
		"a loop of a loop":         loopNode(loopNode()),
		"a loop of a for":          loopNode(forNode()),
		"a loop of a call":         loopNode(callNode(nil)),
		"a loop of no kind":        loopNode(api.Leak{}),
		"a loop that goes on":      loopNode(ifNode(false, nil), ifNode(true, nil)),
		"a loop that ends twice":   loopNode(ifNode(false, nil), ifNode(false, nil)),
		"a loop, a line behind":    loopNode(ifNode(true, nil), ifNode(false, nil), leak.Line(1)),
		"a loop with a body more":  loopNode(ifNode(true, nil), ifNode(false, nil, leak.Line(1))),
		"a loop of a bad if":       loopNode(api.Leak{Kind: api.LeakIf, Taken: true}),
		"a loop of a bad last if":  loopNode(api.Leak{Kind: api.LeakIf}),
		"a loop of two empty ones": loopNode(api.Leak{Kind: api.LeakIf, Subs: []list{nil, nil}}),
		"a loop of a bad line":     loopNode(api.Leak{Kind: api.LeakLine, Taken: true}, ifNode(false, nil)),
	}
}

// goodNodes are nodes that may be.
func goodNodes() map[string]api.Leak {
	return map[string]api.Leak{
		"a line":                       leak.Line(1, 2, 3),
		"a line without items":         leak.Line(),
		"a line with an empty list":    {Kind: api.LeakLine, Items: at(), Subs: []list{}},
		"an if":                        ifNode(true, at(1), leak.Line(2)),
		"an if, the other way":         ifNode(false, at(1), leak.Line(2)),
		"an if without anything":       ifNode(false, nil),
		"a loop never begun":           loopNode(ifNode(false, at(1))),
		"a loop":                       loopNode(ifNode(true, at(1), leak.Line(2)), ifNode(true, nil, loopNode(ifNode(false, nil))), ifNode(false, nil)),
		"a loop, a part: nothing":      loopNode(),
		"a loop, a part":               loopNode(ifNode(true, nil), ifNode(true, nil, leak.Line(1))),
		"a loop with lines":            loopNode(leak.Line(1), leak.Line(2), ifNode(true, nil), ifNode(true, nil), leak.Line(), ifNode(false, nil)),
		"a loop of lines alone":        loopNode(leak.Line(1), leak.Line(2)),
		"a loop, a part, a line last":  loopNode(leak.Line(1), ifNode(true, nil, leak.Line(3)), leak.Line(4)),
		"a for":                        forNode(list{leak.Line(1)}, nil, list{ifNode(true, nil), leak.Line(2)}),
		"a for without rounds":         forNode(),
		"a call":                       callNode(at(1, 2), leak.Line(1), callNode(nil)),
		"a call of nothing":            callNode(nil),
		"a branch that is not an ask":  ifNode(false, nil, loopNode(), leak.Line(1)),
		"a loop's body that has loops": loopNode(ifNode(true, nil, loopNode(), forNode(), callNode(nil), ifNode(false, nil, leak.Line(1)))),
	}
}

// P2.1: May, of each kind of node; where such a node stands makes no difference.
func TestMayKinds(t *testing.T) {
	for what, n := range goodNodes() {
		for where, l := range standing(n) {
			if !leak.May(l) {
				t.Errorf("%s, %s: may not be", what, where)
			}
		}
	}
	for what, n := range badNodes() {
		for where, l := range standing(n) {
			if leak.May(l) {
				t.Errorf("%s, %s: may be", what, where)
			}
		}
	}
	if !leak.May(nil) || !leak.May(list{}) || !leak.May(allKinds()) {
		t.Error("nothing, or all kinds, may not be")
	}
}

// standing are lists in which a node stands: alone, behind others, and within others.
func standing(n api.Leak) map[string]list {
	return map[string]list{
		"alone":     {n},
		"first":     {n, leak.Line()},
		"last":      append(allKinds(), n),
		"in an if":  {ifNode(false, nil, leak.Line(), n)},
		"in a loop": {loopNode(ifNode(true, nil, n), ifNode(false, nil))},
		"in a for":  {forNode(nil, list{leak.Line(), n}, nil)},
		"in a call": {callNode(at(1), n, leak.Line())},
	}
}

// P2.1: nested exactly MaxDeep deep, and one deeper.
func TestMayDeep(t *testing.T) {
	for deep, want := range map[int]bool{1: true, 511: true, 512: true, 513: false, 600: false, 1 << 16: false} {
		if may := leak.May(list{nested(deep, leak.Line())}); may != want {
			t.Errorf("%d deep: %v", deep, may)
		}
	}
	// An empty list is no node, however deep it is; a loop's askings count, too.
	if !leak.May(list{nested(512, ifNode(true, nil))}) || !leak.May(list{nested(511, loopNode(ifNode(false, nil)))}) || leak.May(list{nested(512, loopNode(ifNode(false, nil)))}) {
		t.Error("edges of what nests")
	}
	if !leak.May(list{nested(512, forNode(nil, nil))}) || leak.May(list{nested(512, forNode(nil, list{leak.Line()}))}) {
		t.Error("edges of rounds")
	}
	if leak.May(list{leak.Line(), nested(513, leak.Line()), leak.Line()}) {
		t.Error("one in the midst is too deep")
	}
}

// P2.1: exactly MaxNodes nodes and items, and one more.
func TestMayLong(t *testing.T) {
	for what, c := range map[string]struct {
		l    list
		want bool
	}{
		"items":              {list{wide(1000000)}, true},
		"an item more":       {list{wide(1000001)}, false},
		"nodes":              {manyLines(1000000), true},
		"a node more":        {manyLines(1000001), false},
		"both":               {list{ifNode(true, nil, wide(500000)), wide(499999)}, true},
		"one more of both":   {list{ifNode(true, nil, wide(500000)), wide(500000)}, false},
		"rounds do not":      {list{forNode(make([]list, 2000000)...)}, true},
		"a round's do":       {list{forNode(list{wide(999999)})}, true},
		"a round's one more": {list{forNode(list{wide(999999)}, list{leak.Line()})}, false},
	} {
		if may := leak.May(c.l); may != c.want {
			t.Errorf("%s: %v", what, may)
		}
	}
}

// manyLines are so many lines.
func manyLines(n int) list {
	l := make(list, n)
	for i := range l {
		l[i].Kind = api.LeakLine
	}
	return l
}

// P2.1: Count.
func TestCount(t *testing.T) {
	deeper := loopNode(ifNode(true, nil, leak.Line(1, 2)))
	for what, c := range map[string]struct {
		l    list
		want int
	}{
		"nothing":          {nil, 0},
		"empty":            {list{}, 0},
		"a line":           {list{leak.Line(1, 2, 3)}, 4},
		"all kinds":        {allKinds(), 3 + 4 + 4 + 11 + 5 + 5},
		"what may not be":  {list{{Kind: 9, Items: at(1), Taken: true, Subs: []list{{leak.Line(1)}, nil, {leak.Line()}}}}, 5},
		"511 deep":         {list{nested(511, leak.Line(1))}, 512},
		"512 deep":         {list{nested(512, leak.Line(1))}, 513},
		"513 deep":         {list{nested(513, leak.Line(1))}, 512},
		"far too deep":     {list{nested(1<<16, leak.Line(1)), leak.Line(5)}, 514},
		"partly too deep":  {list{nested(512, deeper), leak.Line(5)}, 514},
		"just as many":     {list{wide(999999), leak.Line()}, 1000000},
		"one more":         {list{wide(1000000), leak.Line()}, 1000001},
		"many more":        {list{wide(900000), wide(900000)}, 1000001},
		"more in one node": {list{wide(3000000)}, 1000001},
	} {
		if n := leak.Count(c.l); n != c.want {
			t.Errorf("%s: %d, not %d", what, n, c.want)
		}
	}
}

// P2.1: lists that are shared make very many nodes of few.
func TestShared(t *testing.T) {
	l := list{leak.Line()}
	for range 200 {
		l = list{forNode(l, l)}
	}
	if leak.May(l) || leak.Count(l) != 1000001 {
		t.Error("shared lists")
	}
	if _, e := leak.Flat(l); e != api.ErrLong {
		t.Error(e)
	}
	wantRefused(t, "shared lists", terms(same()), l, false, api.ErrLong)
}
