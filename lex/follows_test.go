package lex_test

import (
	"math/rand"
	"regexp"
	"strings"
	"testing"

	"muffle/lex"
)

// wantFollows wants what follows of a text: P4.4.
func wantFollows(t *testing.T, text string) {
	t.Helper()
	l, f := lex.All(text)
	plain := lex.Plain(l...)
	if again, f2 := lex.All(plain); len(plain) <= 65536 && (f2 != fine || !lex.Same(l, again)) {
		t.Errorf("of %.40q's plain text: %v, %v; not %v", text, again, f2, l)
	}
	var ahead tokens
	end := 0
	for at, x := range lex.Tokens(text) {
		if at < end || x.Text == "" || !strings.HasPrefix(text[at:], x.Text) {
			t.Fatalf("%.40q: %v at %d, behind %d", text, x, at, end)
		}
		if between := text[end:at]; !onlyBlankRE.MatchString(between) {
			t.Errorf("%.40q: between tokens stands %q", text, between)
		}
		if line, col := lex.Line(text, at); line != x.Line || col != x.Col {
			t.Errorf("%.40q: %v at %d", text, x, at)
		}
		end = at + len(x.Text)
		ahead = append(ahead, x)
	}
	if f == fine && (!lex.Same(l, ahead) || !onlyBlankRE.MatchString(text[end:])) {
		t.Errorf("%.40q: All tells %v, Tokens %v", text, l, ahead)
	}
	if f != fine && l != nil {
		t.Errorf("%.40q: %v beside %v", text, l, f)
	}
}

var onlyBlankRE = regexp.MustCompile(`^(?:[ \t\n\r]|#[^\n]*(?:\n|$))*$`)

// P4.4, P0.8: texts made of tokens, and of what is near to them.
func TestSomeTexts(t *testing.T) {
	r := rand.New(rand.NewSource(4))
	good := 0
	for range 4000 {
		text := someText(r)
		wantLike(t, text)
		wantFollows(t, text)
		if _, f := lex.All(text); f == fine {
			good++
		}
	}
	if good < 400 || good > 3600 {
		t.Error("the texts try too little: of 4000 are good", good)
	}
}

// P4.4, P0.8: any bytes.
func TestAnyBytes(t *testing.T) {
	r := rand.New(rand.NewSource(44))
	for range 4000 {
		b := make([]byte, r.Intn(40))
		r.Read(b)
		wantLike(t, string(b))
		wantFollows(t, string(b))
	}
	near := " \t\n\r#az09_<>=!-+(Z$\x00\x80"
	for range 8000 {
		b := make([]byte, r.Intn(24))
		for i := range b {
			b[i] = near[r.Intn(len(near))]
		}
		wantLike(t, string(b))
		wantFollows(t, string(b))
	}
}

// P4.4: all short texts of a few bytes, each of which is of another kind.
func TestShortTexts(t *testing.T) {
	eachRun("a1_0 \n#<=!", 4, func(text string) {
		wantLike(t, text)
		wantFollows(t, text)
	})
}

// P4.4: a long text; where its plain text is too long, nothing is said of that.
func TestFollowsOfLongTexts(t *testing.T) {
	for _, text := range []string{strings.Repeat("(1", 16384), strings.Repeat("a;", 32768), strings.Repeat("ab\n", 21845), strings.Repeat("x <<< 7 # n\n", 5000)} {
		wantFollows(t, text)
	}
	if _, f := lex.All(lex.Plain(tokensOf(t, strings.Repeat("(1", 16384))...)); f != fine {
		t.Error("a plain text of 65535 bytes:", f)
	}
}

// P4.2, P4.4: Name, Own and Number say of a whole text just what All says of it.
func TestWordsAndAll(t *testing.T) {
	eachRun("af1_0n ", 4, func(text string) {
		l, f := lex.All(text)
		one := f == fine && len(l) == 1 && l[0].Text == text
		x, errno := lex.Number(text)
		name, own, number := lex.Name(text), lex.Own(text), errno == 0
		if one != (name || own || number) {
			t.Fatalf("%q: %v, %v; %v, %v, %v", text, l, f, name, own, number)
		}
		if one && (name != (l[0].Kind == 1) || own != (l[0].Kind == 2) || number != (l[0].Kind == 3) || x != l[0].Word) {
			t.Errorf("%q: %v; %v, %v, %v", text, l, name, own, number)
		}
	})
}
