package lex_test

import (
	"iter"
	"math/big"
	"math/rand"
	"regexp"
	"slices"
	"strings"
	"testing"

	"muffle/api"
	"muffle/lex"
)

// What the tests hold the package against is told here anew, by regular expressions and big numbers.

type tokens = []api.Token

// placed is a token, and the place of its first byte.
type placed struct {
	at int
	t  api.Token
}

// The fault of no text.
var fine api.Fault

func allOwn() []string {
	return strings.Fields("array else fn for if pick region secret stack var while")
}

func allSigns() []string {
	return strings.Fields("( ) { } [ ] , ; = + - * & | ^ ~ < << <<< <= > >> >>> >>>> == != ->")
}

var (
	blankRE  = regexp.MustCompile(`^(?:[ \t\n\r]|#[^\n]*(?:\n|$))+`)
	nameRE   = regexp.MustCompile(`^[a-z][a-z0-9_]*`)
	numberRE = regexp.MustCompile(`^[0-9]+`)
	behindRE = regexp.MustCompile(`^[0-9]+[a-z_]`)
)

// model is a text's tokens ahead of the first place that is wrong, and what is wrong there.
func model(text string) ([]placed, api.Fault) {
	if len(text) > 65536 {
		return nil, api.Fault{Errno: api.ErrLong}
	}
	var out []placed
	for at := 0; at < len(text); {
		rest := text[at:]
		if blank := blankRE.FindString(rest); blank != "" {
			at += len(blank)
			continue
		}
		line, col := modelLine(text, at)
		t, errno := modelToken(rest)
		if errno != api.OK {
			return out, api.Fault{Errno: errno, Line: line, Col: col}
		}
		t.Line, t.Col = line, col
		out = append(out, placed{at, t})
		at += len(t.Text)
	}
	return out, fine
}

// modelToken is the token with which a text begins that begins with nothing blank.
func modelToken(rest string) (api.Token, api.Errno) {
	if name := nameRE.FindString(rest); slices.Contains(allOwn(), name) {
		return api.Token{Kind: api.TokenOwn, Text: name}, api.OK
	} else if len(name) > 16 {
		return api.Token{}, api.ErrName
	} else if name != "" {
		return api.Token{Kind: api.TokenName, Text: name}, api.OK
	}
	if digits := numberRE.FindString(rest); digits != "" {
		x, _ := new(big.Int).SetString(digits, 10)
		if x.String() != digits || !x.IsUint64() || behindRE.MatchString(rest) {
			return api.Token{}, api.ErrSyntax
		}
		return api.Token{Kind: api.TokenNumber, Text: digits, Word: x.Uint64()}, api.OK
	}
	sign := ""
	for _, s := range allSigns() {
		if strings.HasPrefix(rest, s) && len(s) > len(sign) {
			sign = s
		}
	}
	if sign == "" {
		return api.Token{}, api.ErrSyntax
	}
	return api.Token{Kind: api.TokenSign, Text: sign}, api.OK
}

// modelLine counts lines and columns, byte by byte.
func modelLine(text string, at int) (int, int) {
	line, col := 1, 1
	for i := 0; i < at && i < len(text); i++ {
		col++
		if text[i] == 10 {
			line, col = line+1, 1
		}
	}
	return line, col
}

// wantLike wants of a text all that the model says of it.
func wantLike(t *testing.T, text string) {
	t.Helper()
	want, fault := model(text)
	var all tokens
	for _, x := range want {
		all = append(all, x.t)
	}
	if fault != fine {
		all = nil
	}
	if got, f := lex.All(text); f != fault || !slices.Equal(got, all) {
		t.Errorf("All(%.40q): %v, %v; not %v, %v", text, got, f, all, fault)
	}
	if got := gone(lex.Tokens(text)); !slices.Equal(got, want) {
		t.Errorf("Tokens(%.40q): %v; not %v", text, got, want)
	}
}

// wantFault wants a fault of a text, no tokens beside it, and some ahead of it.
func wantFault(t *testing.T, text string, want api.Fault, ahead string) {
	t.Helper()
	if l, f := lex.All(text); f != want || l != nil {
		t.Errorf("All(%.40q): %v, %v; not %v", text, l, f, want)
	}
	var l tokens
	for _, x := range lex.Tokens(text) {
		l = append(l, x)
	}
	if got := lex.Plain(l...); got != ahead {
		t.Errorf("Tokens(%.40q): %q; not %q", text, got, ahead)
	}
}

// wantTokens wants a text to have tokens of these texts alone.
func wantTokens(t *testing.T, text string, want ...string) {
	t.Helper()
	l, f := lex.All(text)
	var got []string
	for _, x := range l {
		got = append(got, x.Text)
	}
	if f != fine || !slices.Equal(got, want) {
		t.Errorf("All(%.40q): %q, %v; not %q", text, got, f, want)
	}
}

func syntax(line, col int) api.Fault {
	return api.Fault{Errno: api.ErrSyntax, Line: line, Col: col}
}

func tooLongName(line, col int) api.Fault {
	return api.Fault{Errno: api.ErrName, Line: line, Col: col}
}

func gone(seq iter.Seq2[int, api.Token]) []placed {
	var l []placed
	for at, t := range seq {
		l = append(l, placed{at, t})
	}
	return l
}

// eachRun shows all texts of these bytes that are at most so long.
func eachRun(bytes string, longest int, see func(text string)) {
	see("")
	var more func(text string)
	more = func(text string) {
		if len(text) == longest {
			return
		}
		for i := range len(bytes) {
			next := text + bytes[i:i+1]
			see(next)
			more(next)
		}
	}
	more("")
}

// someText is made of tokens, of what may stand between them, and seldom of what may not; the same ones in each run.
func someText(r *rand.Rand) string {
	var b strings.Builder
	for range r.Intn(30) {
		switch r.Intn(12) {
		case 0:
			b.WriteString(allOwn()[r.Intn(11)])
		case 1, 2:
			b.WriteString(allSigns()[r.Intn(27)])
		case 3, 4:
			b.WriteString("abcxyz_0123456789abcdefghi"[r.Intn(6):][:1+r.Intn(16)])
		case 5:
			b.WriteString(new(big.Int).SetUint64(r.Uint64() >> uint(r.Intn(64))).String())
		case 6:
			b.WriteString("# " + string(rune(r.Intn(300))) + " note\n")
		case 7:
			b.WriteString([]string{"0", "00", "18446744073709551615", "18446744073709551616", "!", "$", "\x00", "\xff", "_", "A", "#"}[r.Intn(11)])
		default:
			b.WriteString([]string{" ", "\t", "\n", "\r", "  ", "\r\n"}[r.Intn(6)])
		}
	}
	return b.String()
}
