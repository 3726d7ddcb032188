package fold_test

import (
	"fmt"
	"slices"
	"strings"
	"testing"

	"muffle/api"
	"muffle/fold"
	"muffle/scope"
)

// chain is a program that changes in just n rounds: a loop, in which each round finds one more word to be set nowhere.
func chain(n int) api.Program {
	return alone(n+1, while(name("p"), links(0, n)...))
}

// links are the branches of a chain from low to high less 1: each sets the word that the next one asks.
func links(low, high int) stmts {
	var l stmts
	for i := low; i < high; i++ {
		l = append(l, when(name(fmt.Sprint("x", i)), set(fmt.Sprint("x", i+1), word(1))))
	}
	return l
}

// chainTerms are the terms of the round i of a chain of n.
func chainTerms(i, n int) string {
	return "while{" + strings.Join(append([]string{"no{}"}, slices.Repeat([]string{"if{=}{}"}, n-i-1)...), " ") + "}"
}

// P12.1: Rounds of a program that stays as it is: no round is told, and the program is new.
func TestNoRound(t *testing.T) {
	for _, text := range []string{
		"fn f() { }",
		"fn f(x) -> x { x = (x + 1); while x { x = (x - 1); } if x { } else { } }",
		"region k 0 4; fn f(x) { var y; k[x] = pick(1, 2, k[0]); while 0 { y = (y + 1); } }",
	} {
		p := program(t, text)
		wantRounds(t, text, p, p)
		q, all, errno := fold.Rounds(p)
		if errno != api.OK || all != nil {
			t.Error(text, errno, all)
		}
		q.Funcs[0].Name = "other"
		if p.Funcs[0].Name != "f" {
			t.Error(text, "shares memory")
		}
	}
}

// P12.1: Rounds of a program that changes once, and more often; each round's terms.
func TestRounds(t *testing.T) {
	for _, c := range []struct {
		body, result string
		terms        []string
	}{
		{"x = (y + 1); y = x;", "x = 1; y = 1;", []string{"= ="}},
		{"x = (p + z);", "x = (p + 0);", []string{"="}},
		{"if x { y = 1; } else { if z { y = 2; } else { y = p; } }", "y = p;", []string{"no{no{=}}"}},
		{"if 1 { }", "", []string{"yes{}"}},
		// What is set in a way that is never taken is found in the first round, what hangs on it in the next one.
		{"while p { if 0 { x = 1; } y = x; }", "while p { y = 0; }", []string{"while{no{} =}", "while{=}"}},
		{"while p { if 0 { x = 1; } if x { y = 1; } } z = y;", "while p { } z = 0;", []string{"while{no{} if{=}{}} =", "while{no{}} =", "while{} ="}},
		{"while p { if 0 { x = 1; } } y = x; if y { z = p; }", "while p { } y = 0;", []string{"while{no{}} = if{=}{}", "while{} = no{}"}},
		{"while p { while q { if z { x = 1; } y = x; } }", "while p { while q { y = 0; } }", []string{"while{while{no{} =}}", "while{while{=}}"}},
		{"while p { if 1 { y = p; } else { x = 1; } s[x] = y; } while q { if 1 { x = 1; } else { y = 1; } }",
			"while p { y = p; s[0] = y; } while q { x = 1; }", []string{"while{yes{=} =} while{yes{=}}", "while{= =} while{=}"}},
		{"while p { if x { x = 1; } }", "while p { if x { x = 1; } }", nil},
	} {
		wantRounds(t, c.body, program(t, head+c.body+" }"), program(t, head+c.result+" }"), c.terms...)
	}
}

// P12.1: a program that changes just MaxRounds times, and ones that would change once more, and far more often.
func TestMaxRounds(t *testing.T) {
	for _, n := range []int{0, 1, 2, 7, 8, 9, 10, 20, 62} {
		var terms []string
		for i := range min(n, api.MaxRounds) {
			terms = append(terms, chainTerms(i, n))
		}
		left := alone(n+1, while(name("p"), links(min(n, api.MaxRounds), n)...))
		wantRounds(t, fmt.Sprint("a chain of ", n), chain(n), left, terms...)
		// What is left is folded on as any program is.
		if n > api.MaxRounds {
			first := fmt.Sprint("a chain of ", n, ", the rest")
			q, all, errno := foldedAll(t, first, left)
			if errno != api.OK || len(all) != min(n-api.MaxRounds, api.MaxRounds) || n < 16 && !scope.Same(q, alone(n+1, while(name("p")))) {
				t.Error(first, errno, len(all))
			}
		}
	}
	// The last one that changes does so behind the loop.
	for _, n := range []int{0, 6, 7, 8} {
		what := fmt.Sprint("a chain of ", n, ", with more behind it")
		p, want := chain(n), chain(0)
		last := name(fmt.Sprint("x", n))
		p.Funcs[0].Body = append(p.Funcs[0].Body, set("p", last))
		want.Funcs[0].Vars = p.Funcs[0].Vars
		if n < api.MaxRounds {
			last = word(0)
		}
		want.Funcs[0].Body = append(want.Funcs[0].Body, set("p", last))
		q, all, errno := foldedAll(t, what, p)
		if errno != api.OK || !scope.Same(q, want) || len(all) != min(n+1, api.MaxRounds) {
			t.Error(what, errno, len(all), tell(q))
		}
	}
}

// P12.1: each of the rounds is one of Program, of what the one before it came to.
func TestRoundByRound(t *testing.T) {
	for n := range 12 {
		what := fmt.Sprint("a chain of ", n)
		_, all, errno := foldedAll(t, what, chain(n))
		if errno != api.OK {
			t.Fatal(what, errno)
		}
		p := chain(n)
		for i, terms := range all {
			q, own, errno := folded(t, what, p)
			if errno != api.OK || tellTerms(terms) != tellTerms(own) || scope.Same(q, p) {
				t.Error(what, i, errno)
			}
			p = q
		}
		q, _, _ := foldedAll(t, what, chain(n))
		if !scope.Same(q, p) {
			t.Error(what, tell(q), tell(p))
		}
	}
}
