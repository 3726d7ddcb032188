package pretty_test

import (
	"slices"
	"testing"

	"muffle/api"
	"muffle/lex"
	"muffle/pretty"
)

// P5.2: Sign and Op of each operation that has one.
func TestSigns(t *testing.T) {
	if len(signTexts()) != int(api.OpLe-api.OpAdd)+1 {
		t.Fatal("not as many signs as operations")
	}
	for i, want := range signTexts() {
		o := api.OpAdd + api.Op(i)
		if got, is := pretty.Sign(o); got != want || !is {
			t.Errorf("Sign(%d): %q, %v; not %q", o, got, is, want)
		}
		if got, is := pretty.Op(want); got != o || !is {
			t.Errorf("Op(%q): %d, %v; not %d", want, got, is, o)
		}
		if l, f := lex.All(want); f.Errno != api.OK || len(l) != 1 || l[0].Kind != api.TokenSign {
			t.Errorf("%q is no sign of layer 4", want)
		}
	}
}

// P5.2: Sign of what has none.
func TestNoSigns(t *testing.T) {
	for _, o := range []api.Op{-1 << 63, -1, 0, api.OpConst, api.OpVar, api.OpIndex, api.OpNot, api.OpNeg, api.OpPick, 22, 23, 100, 1 << 62, 1<<63 - 1} {
		if got, is := pretty.Sign(o); got != "" || is {
			t.Errorf("Sign(%d): %q", o, got)
		}
	}
}

// P5.2: Op of what is no sign.
func TestNoOps(t *testing.T) {
	texts := []string{"", " ", "~", "pick", "=", "->", "!", ">", ">=", "(", ")", "[", "]", "{", "}", ",", ";", "x", "1", "=>", "=<", "<>", "<<<<", ">>>>>", "===", "!==", "&&", "||", "**", "++", "--", "\x00", "é", "OpAdd", "6"}
	for _, s := range signTexts() {
		texts = append(texts, s+" ", " "+s, s+"\n", s+"\x00", "("+s+")")
	}
	for i := range 256 {
		texts = append(texts, string([]byte{byte(i)}), string([]byte{'<', byte(i)}), string([]byte{byte(i), '='}))
	}
	for _, s := range texts {
		if got, is := pretty.Op(s); (got != 0 || is) && !slices.Contains(signTexts(), s) {
			t.Errorf("Op(%q): %d, %v", s, got, is)
		}
	}
}
