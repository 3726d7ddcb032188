package lex_test

import (
	"math/big"
	"strings"
	"testing"

	"muffle/api"
	"muffle/lex"
)

// P4.2: Name.
func TestName(t *testing.T) {
	for s, want := range map[string]bool{
		"a": true, "z": true, "x_1": true, "a0": true, "a_": true, "a__9": true, "abcdefghijklmnop": true, "a_______________": true, "z999999999999999": true,
		"": false, "abcdefghijklmnopq": false, "a________________": false, strings.Repeat("a", 100): false,
		"_": false, "_a": false, "1x": false, "1": false, "0": false, "A": false, "aB": false, "aBc": false, "a b": false, " a": false, "a ": false,
		"a\n": false, "a\x00": false, "\x00": false, "a\xff": false, "é": false, "aé": false, "a-b": false, "a#": false, "+": false, "a`": false, "a{": false, "a/": false, "a:": false, "`": false, "{": false,
	} {
		if lex.Name(s) != want {
			t.Errorf("Name(%q) is not %v", s, want)
		}
	}
	for _, s := range allOwn() {
		if lex.Name(s) || !lex.Name(s+"s") || !lex.Name("a"+s) || !lex.Name(s[:len(s)-1]) {
			t.Errorf("Name, about %q", s)
		}
	}
}

// P4.2: Own.
func TestOwn(t *testing.T) {
	for _, s := range allOwn() {
		if !lex.Own(s) {
			t.Errorf("Own(%q)", s)
		}
		for _, no := range []string{s + "_", s + " ", " " + s, s + s, s[1:], s[:len(s)-1], strings.ToUpper(s), s + "\x00", strings.ToUpper(s[:1]) + s[1:]} {
			if lex.Own(no) {
				t.Errorf("Own(%q)", no)
			}
		}
	}
	for _, s := range []string{"", "a", "1", "+", "int", "func", "return", "let", "fn f", "else if", "main"} {
		if lex.Own(s) {
			t.Errorf("Own(%q)", s)
		}
	}
}

// P4.2: each byte, as a name's first one and as another.
func TestNameBytes(t *testing.T) {
	for i := range 256 {
		c := string([]byte{byte(i)})
		letter := strings.Contains("abcdefghijklmnopqrstuvwxyz", c)
		more := letter || strings.Contains("0123456789_", c)
		if lex.Name(c) != letter || lex.Name(c+"x") != letter || lex.Name("x"+c) != more || lex.Name("x"+c+"x") != more {
			t.Errorf("Name, about %q", c)
		}
	}
}

// P4.2: Number.
func TestNumber(t *testing.T) {
	wantNumber := func(s string) {
		t.Helper()
		x, is := new(big.Int).SetString(s, 10)
		want, wantErrno := uint64(0), api.ErrSyntax
		if is && x.String() == s && x.IsUint64() {
			want, wantErrno = x.Uint64(), api.OK
		}
		if got, errno := lex.Number(s); got != want || errno != wantErrno {
			t.Errorf("Number(%.40q): %d, %v; not %d, %v", s, got, errno, want, wantErrno)
		}
	}
	for _, s := range []string{
		"", "0", "00", "01", "1", "9", "10", "010", "18446744073709551614", "18446744073709551615", "18446744073709551616", "18446744073709551620",
		"9223372036854775807", "9223372036854775808", "28446744073709551615", "99999999999999999999", "100000000000000000000", "018446744073709551615",
		"36893488147419103232", "340282366920938463463374607431768211456", strings.Repeat("1", 1000), strings.Repeat("0", 1000), "0" + strings.Repeat("9", 30),
		"+1", "-1", "-0", "+0", " 1", "1 ", "1\n", "\t1", "1_0", "0_0", "_1", "1x", "x1", "0x1", "0b1", "0o7", "1e3", "1.0", "1,0", "1\x00", "\x00", "\xff", "１", "a", "for", "+",
	} {
		wantNumber(s)
	}
	for i := range 256 {
		c := string([]byte{byte(i)})
		for _, s := range []string{c, c + "1", "1" + c, "1" + c + "1", "0" + c} {
			wantNumber(s)
		}
	}
	for shift := range 64 {
		x := new(big.Int).Lsh(big.NewInt(1), uint(shift+1))
		wantNumber(x.String())
		wantNumber(x.Sub(x, big.NewInt(1)).String())
	}
}

// P4.2: a refused number is 0.
func TestNumberRefused(t *testing.T) {
	for _, s := range []string{"18446744073709551616", "07", "7x", "99999999999999999999999"} {
		if x, errno := lex.Number(s); x != 0 || errno != api.ErrSyntax {
			t.Errorf("Number(%s): %d, %v", s, x, errno)
		}
	}
}

// P4.2: Line, at each place that the document names.
func TestLine(t *testing.T) {
	type place struct {
		text      string
		at        int
		line, col int
	}
	for _, x := range []place{
		{"ab\nc", 0, 1, 1}, {"ab\nc", 1, 1, 2}, {"ab\nc", 2, 1, 3}, {"ab\nc", 3, 2, 1}, {"ab\nc", 4, 2, 2}, {"ab\nc", 5, 2, 2}, {"ab\nc", 1 << 62, 2, 2},
		{"ab\nc", -1, 1, 1}, {"ab\nc", -1 << 63, 1, 1}, {"ab\nc", 1<<63 - 1, 2, 2},
		{"", 0, 1, 1}, {"", -1, 1, 1}, {"", 1, 1, 1}, {"a", 1, 1, 2}, {"a", 2, 1, 2},
		{"\n", -1, 1, 1}, {"\n", 0, 1, 1}, {"\n", 1, 2, 1}, {"\n", 2, 2, 1}, {"\n\n", 1, 2, 1}, {"\n\n", 2, 3, 1}, {"a\n\nb\n", 5, 4, 1}, {"a\n\nb\n", 4, 3, 2},
		{"a\rb\r\nc", 2, 1, 3}, {"a\rb\r\nc", 4, 1, 5}, {"a\rb\r\nc", 5, 2, 1}, {"é\x00\xffb", 4, 1, 5}, {"\u0085\u2028b", 5, 1, 6}, {"\t\tb", 2, 1, 3},
	} {
		if line, col := lex.Line(x.text, x.at); line != x.line || col != x.col {
			t.Errorf("Line(%q, %d): %d, %d; not %d, %d", x.text, x.at, line, col, x.line, x.col)
		}
	}
}

// P4.2: Line asks nothing of the text: not that it has tokens alone, nor how long it is.
func TestLineOfAnything(t *testing.T) {
	text := strings.Repeat("a\x00$\n\xff\r", 40)
	for at := -3; at < len(text)+3; at++ {
		line, col := lex.Line(text, at)
		if wantLine, wantCol := modelLine(text, at); line != wantLine || col != wantCol {
			t.Errorf("Line at %d: %d, %d; not %d, %d", at, line, col, wantLine, wantCol)
		}
	}
	long := strings.Repeat("abc\n", 1<<16) + "$$"
	if line, col := lex.Line(long, 1<<18+1); line != 1<<16+1 || col != 2 {
		t.Error(line, col)
	}
	if line, col := lex.Line(strings.Repeat("x", 1<<20), 1<<20); line != 1 || col != 1<<20+1 {
		t.Error(line, col)
	}
}
