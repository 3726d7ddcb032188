package lex_test

import (
	"slices"
	"strings"
	"testing"

	"muffle/api"
	"muffle/lex"
)

// P4.1: kinds, texts, words and places of ordinary tokens.
func TestAll(t *testing.T) {
	text := "fn f(x secret) -> y {\n\ty = (x1 <<< 18446744073709551615); # a note\r\n}"
	own, name, number, sign := api.TokenOwn, api.TokenName, api.TokenNumber, api.TokenSign
	want := tokens{
		{Kind: own, Text: "fn", Line: 1, Col: 1}, {Kind: name, Text: "f", Line: 1, Col: 4}, {Kind: sign, Text: "(", Line: 1, Col: 5},
		{Kind: name, Text: "x", Line: 1, Col: 6}, {Kind: own, Text: "secret", Line: 1, Col: 8}, {Kind: sign, Text: ")", Line: 1, Col: 14},
		{Kind: sign, Text: "->", Line: 1, Col: 16}, {Kind: name, Text: "y", Line: 1, Col: 19}, {Kind: sign, Text: "{", Line: 1, Col: 21},
		{Kind: name, Text: "y", Line: 2, Col: 2}, {Kind: sign, Text: "=", Line: 2, Col: 4}, {Kind: sign, Text: "(", Line: 2, Col: 6},
		{Kind: name, Text: "x1", Line: 2, Col: 7}, {Kind: sign, Text: "<<<", Line: 2, Col: 10},
		{Kind: number, Text: "18446744073709551615", Word: 1<<64 - 1, Line: 2, Col: 14},
		{Kind: sign, Text: ")", Line: 2, Col: 34}, {Kind: sign, Text: ";", Line: 2, Col: 35}, {Kind: sign, Text: "}", Line: 3, Col: 1},
	}
	if got, f := lex.All(text); f != fine || !slices.Equal(got, want) {
		t.Errorf("%v, %v", got, f)
	}
	for i, x := range gone(lex.Tokens(text)) {
		if x.t != want[i] || !strings.HasPrefix(text[x.at:], x.t.Text) {
			t.Error(i, x)
		}
	}
	wantLike(t, text)
}

// P4.1: each sign and each own word, alone and among others.
func TestEachSignAndOwnWord(t *testing.T) {
	wantOne := func(text string, kind api.TokenKind) {
		t.Helper()
		want := tokens{{Kind: kind, Text: text, Line: 1, Col: 1}}
		if l, f := lex.All(text); f != fine || !slices.Equal(l, want) {
			t.Errorf("%q: %v, %v", text, l, f)
		}
		wantTokens(t, "a "+text+" 1", "a", text, "1")
	}
	for _, s := range allSigns() {
		wantOne(s, api.TokenSign)
		wantTokens(t, "a"+s+"b", "a", s, "b")
		wantTokens(t, "7"+s+"7", "7", s, "7")
	}
	for _, s := range allOwn() {
		wantOne(s, api.TokenOwn)
		for _, more := range []string{s + "s", s + "_", s + "0", "a" + s, s[:len(s)-1]} {
			wantOne(more, api.TokenName)
		}
		wantTokens(t, s+"("+s+"~"+s, s, "(", s, "~", s)
		wantFault(t, s+"S", syntax(1, len(s)+1), s)
		wantFault(t, strings.ToUpper(s), syntax(1, 1), "")
	}
}

// P4.1: the longest sign that fits, each time.
func TestLongestSign(t *testing.T) {
	wantTokens(t, "x<<<=", "x", "<<<", "=")
	wantTokens(t, "<<<<<", "<<<", "<<")
	wantTokens(t, "<<=", "<<", "=")
	wantTokens(t, "<==", "<=", "=")
	wantTokens(t, ">>>>>", ">>>>", ">")
	wantTokens(t, ">>>>>>>", ">>>>", ">>>")
	wantTokens(t, ">=", ">", "=")
	wantTokens(t, "===", "==", "=")
	wantTokens(t, "!==", "!=", "=")
	wantTokens(t, "-->", "-", "->")
	wantTokens(t, "->>", "->", ">")
	wantTokens(t, "<-", "<", "-")
	wantTokens(t, "> >>\t>\n>>", ">", ">>", ">", ">>")
	wantTokens(t, "< <\r=", "<", "<", "=")
	eachRun("<>=-!~", 5, func(text string) { wantLike(t, text) })
}

// P4.1: what stands between tokens, and where nothing needs to.
func TestBetween(t *testing.T) {
	for _, text := range []string{"", " ", "\t", "\n", "\r", " \t\r\n \n\n", "#", "# a", "#\n", "##\n#", "# a\r b $ \x00 \xff"} {
		wantTokens(t, text)
		wantLike(t, text)
		wantTokens(t, text+"\nx", "x")
		wantTokens(t, "x"+text, "x")
		wantTokens(t, "x"+text+"\n1", "x", "1")
	}
	wantTokens(t, "r[i+1]=~a;", "r", "[", "i", "+", "1", "]", "=", "~", "a", ";")
	wantTokens(t, "a b\tc\nd\re", "a", "b", "c", "d", "e")
	wantTokens(t, "a#b\nc#d", "a", "c")
	wantTokens(t, "a#b\rc\nd", "a", "d")
	wantTokens(t, "1#2\n3", "1", "3")
	wantTokens(t, "for#for", "for")
	for _, c := range "\v\f\u0085\u00a0\u2028\ufeff" {
		wantFault(t, "a "+string(c)+"b", syntax(1, 3), "a")
	}
}

// P4.1: a line ends with a byte 10 alone; columns count bytes.
func TestPlaces(t *testing.T) {
	at := func(text string, n, line, col int) {
		t.Helper()
		l, f := lex.All(text)
		if f != fine || len(l) <= n || l[n].Line != line || l[n].Col != col {
			t.Errorf("%q: %v, %v; not at %d, %d", text, l, f, line, col)
		}
	}
	at("a # b\nc", 0, 1, 1)
	at("a # b\nc", 1, 2, 1)
	at("a\r\r b", 1, 1, 5)
	at("a\r\nb", 1, 2, 1)
	at("\n\n\n\tb", 0, 4, 2)
	at("# \u00e9\u20ac\n#\n  b", 0, 3, 3)
	at("\t\tb", 0, 1, 3)
	at("ab+cd", 2, 1, 4)
	at("a\nb\n\nc d", 3, 4, 3)
	wantFault(t, "a\n b !", syntax(2, 4), "a b")
	wantFault(t, "\r\r\r$", syntax(1, 4), "")
	wantFault(t, "\r\n\r\n $", syntax(3, 2), "")
	wantFault(t, "# \xff\xff\n\n01", syntax(3, 1), "")
	wantFault(t, "a\n abcdefghijklmnopq", tooLongName(2, 2), "a")
	wantFault(t, "x1 = 07", syntax(1, 6), "x1 =")
}

// P4.1: names of one byte, of as many as may be, and of one more.
func TestNameLengths(t *testing.T) {
	long := "a234567890_bcdef"
	wantTokens(t, "a", "a")
	wantTokens(t, long, long)
	wantTokens(t, long+" "+long, long, long)
	for _, more := range []string{"g", "0", "_", "gh", strings.Repeat("x", 1000)} {
		wantFault(t, long+more, tooLongName(1, 1), "")
		wantFault(t, "("+long+more+")", tooLongName(1, 2), "(")
	}
	wantTokens(t, long+"(g", long, "(", "g")
	wantFault(t, long+"G", syntax(1, 17), long)
}

// P4.1: of two places that are wrong the first one is told, whatever is wrong there.
func TestFirstWrong(t *testing.T) {
	long := "abcdefghijklmnopq"
	wantFault(t, long+" $", tooLongName(1, 1), "")
	wantFault(t, "$ "+long, syntax(1, 1), "")
	wantFault(t, "a "+long+"$", tooLongName(1, 3), "a")
	wantFault(t, "a $"+long, syntax(1, 3), "a")
	wantFault(t, "00 "+long, syntax(1, 1), "")
	wantFault(t, "1"+long, syntax(1, 1), "")
	wantFault(t, "_"+long, syntax(1, 1), "")
	wantFault(t, "a\n$\n$", syntax(2, 1), "a")
	wantTokens(t, "a # $ "+long+" 00\nb", "a", "b")
}

// P4.1: numbers, and what is none.
func TestNumbersInTexts(t *testing.T) {
	for _, s := range []string{"0", "1", "10", "9007199254740993", "9223372036854775808", "18446744073709551615"} {
		l, f := lex.All(s + ";")
		x, errno := lex.Number(s)
		if f != fine || len(l) != 2 || l[0].Word != x || l[0].Kind != api.TokenNumber || errno != api.OK || l[1].Word != 0 {
			t.Errorf("%s: %v, %v; %d, %v", s, l, f, x, errno)
		}
		wantLike(t, s)
	}
	for _, s := range []string{
		"00", "01", "007", "000", "18446744073709551616", "18446744073709551620", "28446744073709551615", "100000000000000000000",
		"36893488147419103232", strings.Repeat("9", 100), strings.Repeat("9", 65535), "018446744073709551615",
		"1x", "0x", "0x10", "1_", "1_000", "0_", "9a", "12z", "00a", "1for", "18446744073709551615a", "18446744073709551616_",
	} {
		wantFault(t, s, syntax(1, 1), "")
		wantLike(t, s)
	}
	wantFault(t, "a = 1x;", syntax(1, 5), "a =")
	wantTokens(t, "1 x", "1", "x")
	wantTokens(t, "1(0,0)", "1", "(", "0", ",", "0", ")")
	wantTokens(t, "-1+1", "-", "1", "+", "1")
	wantTokens(t, "x0 x00 x01", "x0", "x00", "x01")
	// A letter is one of a to z: a greater one begins no token, and is wrong by itself.
	wantFault(t, "1A", syntax(1, 2), "1")
	wantFault(t, "1.5", syntax(1, 2), "1")
}

// P4.1: a text of as many bytes as may be, and of one more.
func TestLongTexts(t *testing.T) {
	whole := api.Fault{Errno: api.ErrLong}
	for what, unit := range map[string]string{"blanks": " ", "signs": "(", "lines": "\n", "a name": "a", "digits": "9", "notes": "#", "wrong bytes": "$", "any bytes": "\xff"} {
		text := strings.Repeat(unit, 65536)
		if _, f := lex.All(text); f.Errno == api.ErrLong {
			t.Errorf("%s: as many as may be: %v", what, f)
		}
		wantLike(t, text)
		wantFault(t, text+unit, whole, "")
		wantFault(t, text+text, whole, "")
	}
	text := strings.Repeat("a;", 32768)
	if l, f := lex.All(text); len(l) != 65536 || f != fine {
		t.Error(len(l), f)
	}
	wantFault(t, text+" ", whole, "")
	wantFault(t, "$"+text, whole, "")
	text = strings.Repeat("ab\n+", 16384)
	if l := gone(lex.Tokens(text)); len(l) != 32768 || l[32767] != (placed{65535, api.Token{Kind: api.TokenSign, Text: "+", Line: 16385, Col: 1}}) {
		t.Error(len(l))
	}
}

// P4.1: what stands alone and begins no token.
func TestAloneBytes(t *testing.T) {
	for i := range 256 {
		text := string([]byte{byte(i)})
		wantLike(t, text)
		wantLike(t, "a"+text)
		wantLike(t, "7"+text)
		wantLike(t, "\n"+text+"\n"+text)
		wantLike(t, "# "+text+"\nb")
	}
	wantFault(t, "!", syntax(1, 1), "")
	wantFault(t, "! =", syntax(1, 1), "")
	wantFault(t, "a!", syntax(1, 2), "a")
	wantFault(t, "!!=", syntax(1, 1), "")
	wantTokens(t, ">", ">")
	for _, text := range []string{"_", "_a", "A", "\x00", "\x80", "\xff", "é", "\"a\"", "a.b", "a:b", "a/b", "a%b", "'", "?", "@", "\\", "`"} {
		wantLike(t, text)
		if _, f := lex.All(text); f.Errno != api.ErrSyntax {
			t.Errorf("%q: %v", text, f)
		}
	}
}

// P4.1: Tokens is left at any time, and gone through again, in full.
func TestTokensLeft(t *testing.T) {
	for _, text := range []string{"", "a", "fn f() { r[0] = 1; } # end", "a b 12 + $ c d", "a\n b abcdefghijklmnopq c", "$ a"} {
		all, _ := model(text)
		seq := lex.Tokens(text)
		for leave := 1; leave <= len(all)+1; leave++ {
			var got []placed
			for at, x := range seq {
				got = append(got, placed{at, x})
				if len(got) == leave {
					break
				}
			}
			if !slices.Equal(got, all[:min(leave, len(all))]) {
				t.Errorf("%q, left behind %d: %v", text, leave, got)
			}
			if again := gone(seq); !slices.Equal(again, all) {
				t.Errorf("%q, again: %v", text, again)
			}
		}
		calls := 0
		seq(func(int, api.Token) bool {
			calls++
			return false
		})
		if calls != min(1, len(all)) {
			t.Errorf("%q: goes on behind a false: %d", text, calls)
		}
	}
}

// P4.1: Tokens is gone through once within the other.
func TestTokensWithin(t *testing.T) {
	seq := lex.Tokens("a 1\n+ b $")
	n := 0
	for i, x := range seq {
		for j, y := range seq {
			if (i == j) != (x == y) {
				t.Error(i, x, j, y)
			}
			n++
		}
	}
	if n != 16 {
		t.Error(n)
	}
}

// P4.1: what is answered is in new memory.
func TestNewMemory(t *testing.T) {
	text := "a + 1"
	a, _ := lex.All(text)
	b, _ := lex.All(text)
	a[0], a[2] = api.Token{}, api.Token{Word: 7}
	if c, _ := lex.All(text); !slices.Equal(b, c) || b[0].Text != "a" || b[2].Word != 1 {
		t.Error(b, c)
	}
}
