package leak_test

import (
	"testing"

	"muffle/api"
	"muffle/leak"
)

func addr(a uint64) api.Seen { return api.Seen{Addr: a} }

func jump(taken bool) api.Seen { return api.Seen{Jump: true, Taken: taken} }

// P2.2: Flat, of each kind of node.
func TestFlat(t *testing.T) {
	for what, c := range map[string]struct {
		l    list
		want []api.Seen
	}{
		"nothing":              {nil, nil},
		"empty":                {list{}, nil},
		"a line":               {list{leak.Line(8, 16, ^uint64(0))}, []api.Seen{addr(8), addr(16), addr(^uint64(0))}},
		"a line without items": {list{leak.Line()}, nil},
		"an if":                {list{ifNode(true, at(24, 1), leak.Line(32))}, []api.Seen{addr(24), addr(1), jump(false), addr(32)}},
		"an if, the other way": {list{ifNode(false, nil, leak.Line(32)), leak.Line(3)}, []api.Seen{jump(true), addr(32), addr(3)}},
		"a loop": {list{loopNode(ifNode(true, at(1), leak.Line(2)), ifNode(true, at(3)), ifNode(false, at(4))), leak.Line(5)},
			[]api.Seen{addr(1), jump(false), addr(2), addr(3), jump(false), addr(4), jump(true), addr(5)}},
		"a loop with lines": {list{loopNode(leak.Line(1), ifNode(true, nil, leak.Line(2)), leak.Line(3), leak.Line(4))},
			[]api.Seen{addr(1), jump(false), addr(2), addr(3), addr(4)}},
		"a part of a loop": {list{loopNode(), loopNode(ifNode(true, nil))}, []api.Seen{jump(false)}},
		"a for":            {list{forNode(list{leak.Line(1)}, nil, list{leak.Line(2), leak.Line(3)})}, []api.Seen{addr(1), addr(2), addr(3)}},
		"a call":           {list{callNode(at(9, 8), leak.Line(7), ifNode(false, nil))}, []api.Seen{addr(9), addr(8), addr(7), jump(true)}},
	} {
		if s, e := leak.Flat(c.l); e != api.OK || !leak.SameSeen(s, c.want) {
			t.Errorf("%s: %v, %v; not %v", what, s, e, c.want)
		}
	}
}

// P2.2: what may not be.
func TestFlatRefused(t *testing.T) {
	for what, n := range badNodes() {
		for where, l := range standing(n) {
			if s, e := leak.Flat(l); e != api.ErrArg || len(s) > 0 {
				t.Errorf("%s, %s: %v, %v", what, where, s, e)
			}
		}
	}
}

// sizes are leakages of which the first error is known: which of both is met first, and both ahead of what may not be.
func sizes() map[string]struct {
	l    list
	want api.Errno
} {
	bad, deep := api.Leak{Kind: 9}, nested(513, leak.Line())
	return map[string]struct {
		l    list
		want api.Errno
	}{
		"just so deep":              {list{nested(512, leak.Line())}, api.OK},
		"too deep":                  {list{deep}, api.ErrNest},
		"just so long":              {list{wide(1000000)}, api.OK},
		"too long":                  {list{wide(1000001)}, api.ErrLong},
		"too deep, then too long":   {list{deep, wide(1000001)}, api.ErrNest},
		"too long, then too deep":   {list{wide(1000001), deep}, api.ErrLong},
		"too long by then":          {list{wide(1000000 - 511), deep}, api.ErrLong},
		"too long at one node":      {list{wide(1000000 - 512), deep}, api.ErrNest},
		"too deep within":           {list{nested(512, ifNode(true, nil, wide(1000001)))}, api.ErrNest},
		"too long, ahead of lists":  {list{ifNode(true, make([]uint64, 1000000), deep)}, api.ErrLong},
		"lists ahead of the next":   {list{ifNode(true, nil, deep), wide(1000001)}, api.ErrNest},
		"may not be, then too deep": {list{bad, deep}, api.ErrNest},
		"may not be, then too long": {list{bad, wide(1000000)}, api.ErrLong},
		"may not be, too deep":      {list{nested(513, bad)}, api.ErrNest},
		"may not be, and too long":  {list{{Kind: 9, Items: make([]uint64, 1000000)}}, api.ErrLong},
		"may not be, within a line": {list{{Kind: api.LeakLine, Subs: []list{{deep}}}}, api.ErrNest},
		"very deep":                 {list{nested(1<<16, leak.Line())}, api.ErrNest},
	}
}

// P2.2, P2.3: ErrNest, ErrLong and ErrArg, in their order, of all calls.
func TestSizes(t *testing.T) {
	for what, c := range sizes() {
		s, e := leak.Flat(c.l)
		if e != c.want || e != api.OK && len(s) > 0 {
			t.Errorf("Flat of what is %s: %v", what, e)
		}
		l := make([]api.Term, len(c.l))
		for i := range l {
			l[i] = same()
		}
		if c.want != api.OK {
			// Terms that may not be are told behind that.
			wantRefused(t, what, l, c.l, true, c.want)
			wantRefused(t, what, terms(api.Term{}), c.l, false, c.want)
		} else if got, e := leak.Rewrite(l, c.l, 0, false); e != api.OK || !leak.Same(got, c.l) {
			t.Errorf("Rewrite of what is %s: %v", what, e)
		}
	}
}

// P2.4: Same.
func TestSame(t *testing.T) {
	bases := []func() list{allKinds, func() list { return list{nested(70, loopNode(ifNode(false, at(1))))} }, func() list { return nil }}
	for i, f := range bases {
		for j, g := range bases {
			if leak.Same(f(), g()) != (i == j) {
				t.Errorf("%d, %d: %v", i, j, i != j)
			}
		}
	}
	changes := map[string]func(l list){
		"kind":           func(l list) { l[0].Kind = 9 },
		"an item":        func(l list) { l[0].Items[1]++ },
		"an item more":   func(l list) { l[0].Items = append(l[0].Items, 0) },
		"an item less":   func(l list) { l[0].Items = l[0].Items[:1] },
		"taken":          func(l list) { l[1].Taken = false },
		"a list more":    func(l list) { l[4].Subs = append(l[4].Subs, nil) },
		"a list less":    func(l list) { l[4].Subs = l[4].Subs[:1] },
		"an item within": func(l list) { l[3].Subs[0][1].Subs[0][0].Items[0]++ },
		"taken within":   func(l list) { l[3].Subs[0][2].Taken = true },
		"a node more":    func(l list) { l[5].Subs[0] = append(l[5].Subs[0], leak.Line()) },
		"a node less":    func(l list) { l[5].Subs[0] = nil },
	}
	for what, change := range changes {
		l := allKinds()
		change(l)
		if leak.Same(l, allKinds()) || leak.Same(allKinds(), l) {
			t.Errorf("the same in spite of another %s", what)
		}
	}
	if leak.Same(allKinds(), allKinds()[:5]) || leak.Same(allKinds()[:5], allKinds()) {
		t.Error("the same as a beginning")
	}
}

// P2.4: nil and empty lists are one; what may not be is the same as itself, too.
func TestSameOdd(t *testing.T) {
	if !leak.Same(nil, list{}) || !leak.Same(list{{Kind: 1, Items: nil, Subs: nil}}, list{{Kind: 1, Items: at(), Subs: []list{}}}) {
		t.Error("nil and empty lists")
	}
	if !leak.Same(list{{Kind: 2, Subs: []list{nil}}}, list{{Kind: 2, Subs: []list{{}}}}) || leak.Same(list{{Kind: 2}}, list{{Kind: 2, Subs: []list{nil}}}) {
		t.Error("lists of nil and empty lists")
	}
	for what, n := range badNodes() {
		if !leak.Same(list{n}, list{n}) || leak.Same(list{n}, nil) {
			t.Error(what)
		}
	}
	if deep := nested(1<<16, leak.Line(1)); !leak.Same(list{deep}, list{nested(1<<16, leak.Line(1))}) || leak.Same(list{deep}, list{nested(1<<16, leak.Line(2))}) {
		t.Error("what is very deep")
	}
}

// P2.4: SameSeen, Prefix.
func TestSeen(t *testing.T) {
	all := []api.Seen{addr(1), jump(true), jump(false), addr(0), {Jump: true, Taken: true, Addr: 5}}
	for i := range len(all) + 1 {
		for j := range len(all) + 1 {
			if leak.SameSeen(all[:i], all[:j]) != (i == j) || leak.Prefix(all[:i], all[:j]) != (i <= j) {
				t.Errorf("the first %d and the first %d", i, j)
			}
		}
		if i == len(all) {
			continue
		}
		for _, other := range []api.Seen{{Jump: !all[i].Jump, Taken: all[i].Taken, Addr: all[i].Addr}, {Jump: all[i].Jump, Taken: !all[i].Taken, Addr: all[i].Addr}, {Jump: all[i].Jump, Taken: all[i].Taken, Addr: all[i].Addr + 1}} {
			l := append(append([]api.Seen{}, all[:i]...), other)
			if leak.SameSeen(l, all[:i+1]) || leak.Prefix(l, all) || leak.Prefix(all[:i+1], append(l, all...)) {
				t.Errorf("%v in the place of %v", other, all[i])
			}
		}
	}
	if !leak.SameSeen(nil, []api.Seen{}) || !leak.Prefix(nil, nil) || !leak.Prefix([]api.Seen{}, nil) {
		t.Error("nothing")
	}
}

// P2.4: Line.
func TestLine(t *testing.T) {
	handed := at(3, 1, 2)
	l := leak.Line(handed...)
	handed[0] = 9
	wantSame(t, "Line(3, 1, 2)", list{l}, list{{Kind: api.LeakLine, Items: at(3, 1, 2)}})
	wantSame(t, "Line()", list{leak.Line(), leak.Line(nil...)}, list{{Kind: api.LeakLine}, {Kind: api.LeakLine}})
}
