package lex_test

import (
	"strings"
	"testing"

	"muffle/api"
	"muffle/lex"
)

func wantSame(t *testing.T, what string, a, b tokens, want bool) {
	t.Helper()
	if lex.Same(a, b) != want || lex.Same(b, a) != want {
		t.Errorf("%s: the same: not %v", what, want)
	}
}

func tokensOf(t *testing.T, text string) tokens {
	t.Helper()
	l, f := lex.All(text)
	if f != fine {
		t.Fatalf("%q: %v", text, f)
	}
	return l
}

// P4.3: Same asks kinds, texts and words, one by one, and no places.
func TestSame(t *testing.T) {
	a := tokensOf(t, "fn f(x) { x = (x + 10); }")
	wantSame(t, "itself", a, a, true)
	wantSame(t, "elsewhere", a, tokensOf(t, "fn\n f ( x\t) # note\n{x=(x+10);}"), true)
	for what, text := range map[string]string{
		"an own word": "for f(x) { x = (x + 10); }", "a name": "fn g(x) { x = (x + 10); }", "a sign": "fn f(x) { x = (x - 10); }",
		"a number": "fn f(x) { x = (x + 11); }", "one less": "fn f(x) { x = (x + 10);", "one more": "fn f(x) { x = (x + 10); } x",
		"none": "", "the order": "f fn(x) { x = (x + 10); }", "the last one": "fn f(x) { x = (x + 10); )",
	} {
		wantSame(t, what, a, tokensOf(t, text), false)
	}
	wantSame(t, "two signs and one", tokensOf(t, "> >"), tokensOf(t, ">>"), false)
}

// P4.3: Same, of tokens that no text has: each field but the places counts by itself.
func TestSameOfAnyTokens(t *testing.T) {
	one := api.Token{Kind: api.TokenNumber, Text: "7", Word: 7, Line: 1, Col: 1}
	change := func(do func(x *api.Token)) tokens {
		x := one
		do(&x)
		return tokens{x}
	}
	for what, other := range map[string]tokens{
		"a kind": change(func(x *api.Token) { x.Kind = api.TokenName }),
		"a text": change(func(x *api.Token) { x.Text = "07" }),
		"a word": change(func(x *api.Token) { x.Word = 1 << 63 }),
		"a zero": {{}},
		"twice":  {one, one},
		"none":   nil,
	} {
		wantSame(t, what, tokens{one}, other, false)
		wantSame(t, what+", and itself", other, other, true)
	}
	wantSame(t, "a line", tokens{one}, change(func(x *api.Token) { x.Line = -7 }), true)
	wantSame(t, "a column", tokens{one}, change(func(x *api.Token) { x.Col = 1 << 40 }), true)
	wantSame(t, "odd ones", tokens{{Kind: -1, Text: "\x00"}}, tokens{{Kind: -1, Text: "\x00", Line: 3}}, true)
	wantSame(t, "odd kinds", tokens{{Kind: -1}}, tokens{{Kind: 99}}, false)
}

// P4.3: nil and empty lists are one.
func TestSameOfNone(t *testing.T) {
	wantSame(t, "nil and nil", nil, nil, true)
	wantSame(t, "nil and empty", nil, tokens{}, true)
	wantSame(t, "nil and a zero token", nil, tokens{{}}, false)
}

// P4.3: Plain.
func TestPlain(t *testing.T) {
	for text, want := range map[string]string{
		"": "", " # a": "", "a": "a", " a ": "a", "x1=7;": "x1 = 7 ;", "a\n\n+\tb # c": "a + b", ">>>>>": ">>>> >", "pick(~x,-1,r[2])": "pick ( ~ x , - 1 , r [ 2 ] )",
	} {
		if got := lex.Plain(tokensOf(t, text)...); got != want {
			t.Errorf("%q: %q; not %q", text, got, want)
		}
	}
	for _, x := range []struct {
		l    tokens
		want string
	}{
		{nil, ""}, {tokens{}, ""}, {tokens{{}}, ""}, {tokens{{}, {}}, " "}, {tokens{{}, {}, {}}, "  "},
		{tokens{{Text: "a b"}, {Text: "\n"}, {Text: "\xff\x00"}}, "a b \n \xff\x00"},
		{tokens{{Text: "a", Word: 7}, {Kind: api.TokenNumber, Word: 7}, {Kind: 99, Text: " ", Line: 5, Col: 5}}, "a   "},
		{tokens{{Text: strings.Repeat("a", 70000)}, {Text: "b"}}, strings.Repeat("a", 70000) + " b"},
	} {
		if got := lex.Plain(x.l...); got != x.want {
			t.Errorf("%.40v: %.40q; not %.40q", x.l, got, x.want)
		}
	}
	if lex.Plain() != "" {
		t.Error("Plain of nothing")
	}
}

// P4.3: what is handed in stays as it was.
func TestHandedIn(t *testing.T) {
	l := tokensOf(t, "a + 1")
	was := append(tokens{}, l...)
	lex.Plain(l...)
	lex.Same(l, l[:2])
	for i := range l {
		if l[i] != was[i] {
			t.Error(i, l[i])
		}
	}
}
