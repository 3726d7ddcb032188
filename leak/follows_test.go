package leak_test

import (
	"math/rand"
	"slices"
	"testing"

	"muffle/api"
	"muffle/leak"
)

// maker makes leakages, and terms that fit them; the same ones in each run.
type maker struct{ *rand.Rand }

func (m maker) items() []uint64 {
	l := make([]uint64, m.Intn(4))
	for i := range l {
		l[i] = m.Uint64() >> uint(m.Intn(64))
	}
	return l
}

func (m maker) picks(items int) [][]api.Pick {
	l := make([][]api.Pick, m.Intn(3))
	for i := range l {
		for range m.Intn(3) {
			p := api.Pick{Kind: api.PickKind(1 + m.Intn(4)), Word: m.Uint64() >> uint(m.Intn(64)), Stack: m.Intn(2) == 0}
			if items > 0 {
				p.Item = m.Intn(items)
			} else if p.Kind == api.PickItem || p.Kind == api.PickPlace {
				p.Kind = api.PickAddr
			}
			l[i] = append(l[i], p)
		}
	}
	return l
}

// terms makes a list of terms. What they are of is made of them, so that loops' rounds, and both ways of a branch, have their terms.
func (m maker) terms(deep int) []api.Term {
	var l []api.Term
	for range m.Intn(4) {
		x := api.Term{Kind: api.TermKind(1 + m.Intn(9))}
		if deep == 0 {
			x.Kind = api.TermLines
		}
		switch x.Kind {
		case api.TermIf:
			x.Subs = [][]api.Term{m.terms(deep - 1), m.terms(deep - 1)}
		case api.TermTaken:
			x.Taken = m.Intn(2) == 0
			fallthrough
		case api.TermLoop, api.TermEach:
			x.Subs = [][]api.Term{m.terms(deep - 1)}
		case api.TermFor:
			for range m.Intn(4) {
				x.Subs = append(x.Subs, m.terms(deep-1))
			}
		case api.TermCall:
			x.Subs = [][]api.Term{m.terms(deep - 1), {lines(nil), lines(nil, nil)}}
		}
		if x.Kind != api.TermSame && x.Kind != api.TermNone && x.Kind != api.TermFor && x.Kind != api.TermEach {
			x.Lines = m.picks(3)
		}
		l = append(l, x)
	}
	return l
}

// three are items for any pick of maker's terms.
func (m maker) three() []uint64 { return []uint64{m.Uint64(), m.Uint64(), uint64(m.Intn(9))} }

// leakage makes a whole leakage that terms fit.
func (m maker) leakage(t []api.Term, deep int) list {
	var l list
	for _, x := range t {
		l = append(l, m.node(x, deep))
	}
	return l
}

func (m maker) node(x api.Term, deep int) api.Leak {
	switch x.Kind {
	case api.TermIf:
		if m.Intn(2) == 0 {
			return ifNode(true, m.three(), m.leakage(x.Subs[0], deep-1)...)
		}
		return ifNode(false, m.three(), m.leakage(x.Subs[1], deep-1)...)
	case api.TermTaken:
		return ifNode(x.Taken, m.three(), m.leakage(x.Subs[0], deep-1)...)
	case api.TermLoop:
		var asked list
		for range m.Intn(3) {
			asked = append(asked, ifNode(true, m.three(), m.leakage(x.Subs[0], deep-1)...))
		}
		return loopNode(append(asked, ifNode(false, m.three()))...)
	case api.TermFor:
		n := forNode()
		for _, sub := range x.Subs {
			n.Subs = append(n.Subs, m.leakage(sub, deep-1))
		}
		return n
	case api.TermEach:
		n := forNode()
		for range m.Intn(3) {
			n.Subs = append(n.Subs, m.leakage(x.Subs[0], deep-1))
		}
		return n
	case api.TermCall:
		return callNode(m.three(), m.leakage(x.Subs[0], deep-1)...)
	case api.TermLines:
		return leak.Line(m.three()...)
	}
	return m.any(deep)
}

// any makes a node of any kind, with lines ahead of askings.
func (m maker) any(deep int) api.Leak {
	some := func() list {
		var l list
		for range m.Intn(3) {
			l = append(l, m.any(deep-1))
		}
		return l
	}
	if deep <= 0 {
		return leak.Line(m.items()...)
	}
	switch m.Intn(5) {
	case 0:
		return ifNode(m.Intn(2) == 0, m.items(), some()...)
	case 1:
		var asked list
		for range m.Intn(3) {
			asked = append(asked, leak.Line(m.items()...), ifNode(true, m.items(), some()...))
		}
		return loopNode(append(asked, ifNode(false, m.items()))...)
	case 2:
		return forNode(some(), some())
	case 3:
		return callNode(m.items(), some()...)
	}
	return leak.Line(m.items()...)
}

// beginning is what a run that broke off would have leaked: some nodes, and perhaps a part of the next one.
func (m maker) beginning(l list) list {
	if len(l) == 0 {
		return nil
	}
	n := m.Intn(len(l))
	begun := slices.Clone(l[:n])
	x := l[n]
	if x.Kind == api.LeakLine || m.Intn(4) == 0 {
		return begun
	}
	switch x.Kind {
	case api.LeakFor:
		if len(x.Subs) > 0 {
			i := m.Intn(len(x.Subs))
			x.Subs = append(slices.Clone(x.Subs[:i]), m.beginning(x.Subs[i]))
		}
	default:
		x.Subs = []list{m.beginning(x.Subs[0])}
	}
	return append(begun, x)
}

// seenThrough is what should be seen of what comes of a leakage, told by itself.
func seenThrough(t []api.Term, l list, stack uint64) []api.Seen {
	var s []api.Seen
	for i, n := range l {
		s = append(s, seenOf(t[i], n, stack)...)
	}
	return s
}

func seenOf(x api.Term, n api.Leak, stack uint64) []api.Seen {
	flat := func(n api.Leak) []api.Seen {
		s, _ := leak.Flat(list{n})
		return s
	}
	told := func(n api.Leak) []api.Seen {
		var s []api.Seen
		for _, picks := range x.Lines {
			for _, p := range picks {
				s = append(s, addr(pickOf(p, n.Items, stack)))
			}
		}
		return s
	}
	asked := func(n api.Leak, sub []api.Term) []api.Seen {
		s := told(n)
		if len(x.Lines) == 0 {
			s = flat(leak.Line(n.Items...))
		}
		return append(append(s, jump(!n.Taken)), seenThrough(sub, n.Subs[0], stack)...)
	}
	var s []api.Seen
	switch x.Kind {
	case api.TermSame:
		return flat(n)
	case api.TermLines:
		return told(n)
	case api.TermIf:
		if n.Taken {
			return asked(n, x.Subs[0])
		}
		return asked(n, x.Subs[1])
	case api.TermTaken, api.TermCall:
		return append(told(n), seenThrough(x.Subs[0], n.Subs[0], stack)...)
	case api.TermLoop:
		for _, b := range n.Subs[0] {
			s = append(s, asked(b, x.Subs[0])...)
		}
	case api.TermFor, api.TermEach:
		for i, sub := range n.Subs {
			if x.Kind == api.TermEach {
				i = 0
			}
			s = append(s, seenThrough(x.Subs[i], sub, stack)...)
		}
	}
	return s
}

func pickOf(p api.Pick, items []uint64, stack uint64) uint64 {
	if p.Kind == api.PickItem {
		return items[p.Item]
	}
	w := p.Word
	if p.Kind == api.PickPlace {
		w += items[p.Item] * 8
	}
	if p.Kind != api.PickWord && p.Stack {
		w += stack
	}
	return w
}

func sames(n int) []api.Term {
	l := make([]api.Term, n)
	for i := range l {
		l[i] = same()
	}
	return l
}

// P2.3, P2.5: what comes of a leakage is what is told by itself; what comes of a beginning is a beginning of it.
func TestRewriteMade(t *testing.T) {
	m := maker{rand.New(rand.NewSource(2))}
	parts := 0
	for range 3000 {
		all := m.terms(4)
		l := m.leakage(all, 4)
		got, e := leak.Rewrite(all, l, 4096, false)
		if e != api.OK || !leak.May(got) || !leak.Terms(all) {
			t.Fatal(e, l, all)
		}
		seen, e := leak.Flat(got)
		if want := seenThrough(all, l, 4096); e != api.OK || !leak.SameSeen(seen, want) {
			t.Fatalf("%v: of %v by %v comes %v, not %v", e, l, all, seen, want)
		}
		for range 4 {
			begun := m.beginning(l)
			part, e := leak.Rewrite(all, begun, 4096, true)
			if e != api.OK || !leak.May(part) {
				t.Fatalf("%v: a beginning %v of %v, by %v", e, begun, l, all)
			}
			some, _ := leak.Flat(part)
			if !leak.Prefix(some, seen) {
				t.Fatalf("of a beginning %v of %v, by %v, comes %v", begun, l, all, some)
			}
			if len(some) > 0 && len(some) < len(seen) {
				parts++
			}
		}
	}
	if parts < 1000 {
		t.Errorf("%d parts tell too little", parts)
	}
}

// P2.5: rewritten by TermSame; Through of none; Flat of two lists.
func TestFollows(t *testing.T) {
	m := maker{rand.New(rand.NewSource(3))}
	for range 2000 {
		a, b := list{m.any(4), m.any(4)}, list{m.any(5)}
		if m.Intn(2) == 0 {
			a = m.beginning(a)
		}
		for _, l := range []list{a, b, nil} {
			wantThroughNone(t, "what is made", l)
			for _, broken := range []bool{false, true} {
				wantRewritten(t, "by TermSame", sames(len(l)), l, broken, l)
				got, e := leak.Through([][]api.Term{sames(len(l)), sames(len(l))}, l, 7, broken)
				if e != api.OK || !leak.Same(got, l) {
					t.Fatal(e, got, l)
				}
			}
		}
		one, _ := leak.Flat(a)
		two, _ := leak.Flat(b)
		both, e := leak.Flat(append(slices.Clone(a), b...))
		if e != api.OK || !leak.SameSeen(both, append(slices.Clone(one), two...)) {
			t.Fatal(e, a, b)
		}
		if leak.Count(append(slices.Clone(a), b...)) != leak.Count(a)+leak.Count(b) {
			t.Fatal("Count of two lists")
		}
	}
}

// P2.5: Through of none is what it was, though a rewriting would refuse it (P2.3: that one's error is told first).
func TestThroughNone(t *testing.T) {
	wantThroughNone(t, "nothing", nil)
	wantThroughNone(t, "an empty list", list{})
	for what, n := range badNodes() {
		for where, l := range standing(n) {
			wantThroughNone(t, what+" "+where, l)
			wantRefused(t, what+" "+where, sames(len(l)), l, false, api.ErrArg)
		}
	}
	for what, c := range sizes() {
		wantThroughNone(t, "what is "+what, c.l)
	}
	wantRefused(t, "one list that is empty", nil, list{{}}, false, api.ErrArg)
}

// DOC.md, rules: what Through of none answers is in new memory, though it may not be.
func TestThroughNoneMemory(t *testing.T) {
	want := badNodes()
	for what, n := range badNodes() {
		for where, l := range standing(n) {
			got, _ := leak.Through(nil, l, 0, false)
			spoil(got)
			wantSame(t, what+" "+where, l, standing(want[what])[where])
		}
	}
}

// spoil changes all that a leakage has, and lays something behind each of its lists.
func spoil(l list) {
	for i := range l {
		for j := range l[i].Items {
			l[i].Items[j] += 77
		}
		_ = append(l[i].Items, 99)
		for _, sub := range l[i].Subs {
			spoil(sub)
		}
		_ = append(l[i].Subs, list{leak.Line(99)})
		l[i].Kind += 3
		l[i].Taken = !l[i].Taken
	}
	_ = append(l, leak.Line(99))
}

// spoilTerms does so with terms.
func spoilTerms(t []api.Term) {
	for i := range t {
		for _, picks := range t[i].Lines {
			clear(picks)
		}
		clear(t[i].Lines)
		for _, sub := range t[i].Subs {
			spoilTerms(sub)
		}
		t[i] = api.Term{}
	}
}

// DOC.md, rules: what is answered is in new memory; what is handed in is not changed.
func TestMemory(t *testing.T) {
	for seed := range int64(500) {
		twice := func() (list, []api.Term) {
			m := maker{rand.New(rand.NewSource(seed))}
			all := m.terms(4)
			return m.leakage(all, 4), all
		}
		l, all := twice()
		untouched, _ := twice()
		first, _ := leak.Rewrite(all, l, 8, false)
		again, _ := leak.Rewrite(all, l, 8, false)
		through, _ := leak.Through(nil, l, 8, false)
		seen, _ := leak.Flat(l)
		if !leak.Same(l, untouched) {
			t.Fatal("what was handed in is changed")
		}
		spoil(l)
		spoilTerms(all)
		if !leak.Same(first, again) || !leak.Same(through, untouched) {
			t.Fatal("what was answered hangs on what was handed in")
		}
		if want, _ := leak.Flat(untouched); !leak.SameSeen(seen, want) {
			t.Fatal("what is seen hangs on what was handed in")
		}
		spoil(first)
		if want, _ := leak.Rewrite(secondOf(twice()), untouched, 8, false); !leak.Same(again, want) {
			t.Fatal("two answers share memory")
		}
	}
}

func secondOf(_ list, t []api.Term) []api.Term { return t }

// DOC.md, rules: no two lists of one answer share memory: what is laid behind one does not come up in another.
func TestListsApart(t *testing.T) {
	one := list{leak.Line(1), leak.Line(2), leak.Line(3)}
	l := list{forNode(one, one, one), callNode(at(1, 2, 3), one...), leak.Line(4)}
	all := terms(with(api.TermEach, sames(3)), api.Term{Kind: api.TermCall, Lines: [][]api.Pick{{item(0), item(1), item(2)}, {item(0)}}, Subs: [][]api.Term{sames(3), nil}}, same())
	got, e := leak.Rewrite(all, l, 0, false)
	want, _ := leak.Rewrite(all, l, 0, false)
	if e != api.OK {
		t.Fatal(e)
	}
	got[0].Subs[0][1].Items[0] = 50
	_ = append(got[0].Subs[0], leak.Line(51))
	_ = append(got[1].Items, 52)
	want[0].Subs[0][1].Items[0] = 50
	wantSame(t, "the others", got, want)
	if one[1].Items[0] != 2 {
		t.Error("what was handed in is changed")
	}
}
