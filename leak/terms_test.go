package leak_test

import (
	"testing"

	"muffle/api"
	"muffle/leak"
)

// goodTerms are terms that may be.
func goodTerms() map[string]api.Term {
	picks := [][]api.Pick{nil, {item(0), {Kind: api.PickWord, Word: 1, Item: 3}, {Kind: api.PickPlace, Item: 1 << 40, Stack: true}, {Kind: api.PickAddr, Stack: true}}}
	return map[string]api.Term{
		"same":                 same(),
		"same, empty":          {Kind: api.TermSame, Subs: [][]api.Term{}},
		"no lines":             lines(),
		"lines":                lines(picks...),
		"an if":                with(api.TermIf, nil, terms(same())),
		"an if with lines":     {Kind: api.TermIf, Lines: picks, Subs: [][]api.Term{nil, nil}},
		"taken":                taken(true, picks, same()),
		"not taken":            taken(false, nil),
		"a loop":               with(api.TermLoop, terms(same(), lines())),
		"a for":                with(api.TermFor),
		"a for of one round":   with(api.TermFor, nil),
		"a for of five rounds": with(api.TermFor, nil, terms(same()), nil, nil, terms(lines(), lines())),
		"a call":               {Kind: api.TermCall, Lines: picks, Subs: [][]api.Term{{same()}, {lines(), lines(nil, line(word(1))), lines(line(api.Pick{Kind: api.PickAddr, Stack: true}))}}},
		"a call of nothing":    with(api.TermCall, nil, nil),
		"none":                 {Kind: api.TermNone},
		"each":                 with(api.TermEach, terms(same())),
	}
}

// badTerms are terms that may not be, each for one cause.
func badTerms() map[string]api.Term {
	pick := func(p api.Pick) api.Term { return lines(nil, line(item(0), p)) }
	behind := func(t ...api.Term) api.Term { return with(api.TermCall, nil, t) }
	return map[string]api.Term{
		"kind 0":                      {},
		"kind 10":                     {Kind: 10},
		"kind below 0":                {Kind: -1},
		"pick of kind 0":              pick(api.Pick{}),
		"pick of kind 5":              pick(api.Pick{Kind: 5}),
		"pick below 0":                pick(api.Pick{Kind: -1}),
		"item below 0":                pick(item(-1)),
		"a place's item below 0":      pick(api.Pick{Kind: api.PickPlace, Item: -1 << 62}),
		"a word's item below 0":       pick(api.Pick{Kind: api.PickWord, Item: -1}),
		"same with a list":            with(api.TermSame, nil),
		"lines with a list":           with(api.TermLines, nil),
		"none with a list":            with(api.TermNone, nil),
		"an if without":               with(api.TermIf),
		"an if with one":              with(api.TermIf, nil),
		"an if with three":            with(api.TermIf, nil, nil, nil),
		"taken without":               with(api.TermTaken),
		"taken with two":              with(api.TermTaken, nil, nil),
		"a loop without":              with(api.TermLoop),
		"a loop with two":             with(api.TermLoop, nil, nil),
		"each without":                with(api.TermEach),
		"each with two":               with(api.TermEach, nil, nil),
		"a call without":              with(api.TermCall),
		"a call with one":             with(api.TermCall, nil),
		"a call with three":           with(api.TermCall, nil, nil, nil),
		"same behind a call":          behind(same()),
		"none behind a call":          behind(lines(), api.Term{Kind: api.TermNone}),
		"an item behind a call":       behind(lines(nil, line(word(1), item(0)))),
		"a place behind a call":       behind(lines(line(api.Pick{Kind: api.PickPlace}))),
		"lists behind a call":         behind(with(api.TermLines, nil)),
		"a bad pick behind a call":    behind(lines(line(api.Pick{Kind: 9}))),
		"a bad pick where none are":   {Kind: api.TermSame, Lines: [][]api.Pick{{{Kind: 9}}}},
		"a bad pick of an if":         {Kind: api.TermIf, Lines: [][]api.Pick{{{}}}, Subs: [][]api.Term{nil, nil}},
		"a bad pick ahead of a call":  {Kind: api.TermCall, Lines: [][]api.Pick{{item(-5)}}, Subs: [][]api.Term{nil, nil}},
		"what a loop's kind has not":  with(api.TermLoop, terms(api.Term{})),
		"what a for's kinds have not": with(api.TermFor, nil, terms(same(), api.Term{Kind: 11})),
	}
}

// P2.3: Terms, of each kind; where such a term stands makes no difference.
func TestTerms(t *testing.T) {
	stand := func(x api.Term) map[string][]api.Term {
		return map[string][]api.Term{
			"alone":        {x},
			"first":        {x, same()},
			"last":         {same(), lines(), x},
			"if taken":     {with(api.TermIf, terms(x), nil)},
			"if not taken": {with(api.TermIf, nil, terms(same(), x))},
			"in taken":     {taken(false, nil, x)},
			"in a loop":    {with(api.TermLoop, terms(x))},
			"in a for":     {with(api.TermFor, nil, terms(x))},
			"in a call":    {with(api.TermCall, terms(x), nil)},
			"in each":      {with(api.TermEach, terms(x))},
		}
	}
	for what, x := range goodTerms() {
		for where, l := range stand(x) {
			if !leak.Terms(l) {
				t.Errorf("%s, %s: may not be", what, where)
			}
		}
	}
	for what, x := range badTerms() {
		for where, l := range stand(x) {
			if leak.Terms(l) {
				t.Errorf("%s, %s: may be", what, where)
			}
		}
	}
	if !leak.Terms(nil) || !leak.Terms([]api.Term{}) {
		t.Error("no terms may not be")
	}
}

// nestedTerm is a term that is so deep as said.
func nestedTerm(deep int) api.Term {
	x := same()
	for range deep - 1 {
		x = with(api.TermIf, terms(x), nil)
	}
	return x
}

// P2.3: Terms nested exactly MaxDeep deep, exactly MaxNodes of them, and one more.
func TestTermsLimits(t *testing.T) {
	for deep, want := range map[int]bool{1: true, 512: true, 513: false, 1 << 16: false} {
		if leak.Terms(terms(same(), nestedTerm(deep))) != want {
			t.Errorf("%d deep: not %v", deep, want)
		}
	}
	many := func(n int) []api.Term {
		l := make([]api.Term, n)
		for i := range l {
			l[i] = same()
		}
		return l
	}
	for what, c := range map[string]struct {
		l    []api.Term
		want bool
	}{
		"just as many":   {many(1000000), true},
		"one more":       {many(1000001), false},
		"as many within": {terms(with(api.TermFor, many(500000), nil, many(499998)), same()), true},
		"one more, too":  {terms(with(api.TermFor, many(500000), nil, many(499999)), same()), false},
	} {
		if leak.Terms(c.l) != c.want {
			t.Errorf("%s: not %v", what, c.want)
		}
	}
	shared := terms(same())
	for range 200 {
		shared = terms(with(api.TermIf, shared, shared))
	}
	if leak.Terms(shared) {
		t.Error("shared lists make too many terms of few")
	}
}

// P2.3: terms that may not be are refused, be they needed or not.
func TestRewriteBadTerms(t *testing.T) {
	node := ifNode(true, at(1, 2))
	for what, x := range badTerms() {
		wantRefused(t, what, terms(x), list{node}, false, api.ErrArg)
		wantRefused(t, what, terms(x), nil, true, api.ErrArg)
		wantRefused(t, what, terms(with(api.TermIf, nil, terms(x))), list{node}, false, api.ErrArg)
		wantRefused(t, what, terms(same(), x), list{node}, true, api.ErrArg)
	}
	wantRefused(t, "terms that nest too deep", terms(with(api.TermIf, nil, terms(nestedTerm(512)))), list{node}, false, api.ErrArg)
	wantRewritten(t, "terms that nest just so deep", terms(with(api.TermIf, nil, terms(nestedTerm(511)))), list{node}, false, list{node})
}

// P2.3: a leakage that may not be, whatever becomes of it.
func TestRewriteBadLeaks(t *testing.T) {
	for what, n := range badNodes() {
		for where, l := range standing(n) {
			all := make([]api.Term, len(l))
			for i := range all {
				all[i] = api.Term{Kind: api.TermNone}
			}
			for _, broken := range []bool{false, true} {
				wantRefused(t, what+" "+where, all, l, broken, api.ErrArg)
			}
		}
	}
}
