package parse_test

import (
	"math/rand"
	"strings"
	"testing"

	"muffle/api"
	"muffle/lex"
	"muffle/parse"
	"muffle/pretty"
)

const wholeNice = `region key 8 4 secret;
region out 64 2;
fn none() {
}
fn one(x secret) -> x {
	x = (x + 1);
	x = ((x - 2) * (x & 3));
	x = (((x | 4) ^ (x << 5)) >> (x >>> 6));
	x = ((x <<< 7) >>>> (x == 8));
	x = ((x != 9) < (x <= 10));
}
fn main(x, y secret, z) -> a, b {
	var a;
	array r 4;
	array r2 2 secret;
	var b;
	stack s 2;
	stack s2 1 secret;
	a = 18446744073709551615;
	s[-x] = r[~x];
	for i 0 4 {
		r[i] = key[i];
		for j 7 3 {
		}
	}
	if x {
		none();
	} else {
		while (x != pick(y, 1, z)) {
			none();
		}
	}
	if y {
	}
	a, b = one(x, out[0]);
	a = one(x);
}
`

func wantNice(t *testing.T, text, want string) {
	t.Helper()
	if nice, f := parse.Nice(text); nice != want || f != fine {
		t.Errorf("Nice(%.200q): %.2000q, %v; not %.2000q", text, nice, f, want)
	}
	if nice, f := parse.Nice(want); nice != want || f != fine {
		t.Errorf("Nice of Nice: %.2000q, %v; not %.2000q", nice, f, want)
	}
}

// P6.2: texts, to the byte.
func TestNice(t *testing.T) {
	wantNice(t, whole, wholeNice)
	wantNice(t, "", "")
	wantNice(t, "# a note", "")
	wantNice(t, "fn f(){}", "fn f() {\n}\n")
	wantNice(t, "region a 0 1 secret;fn f(x secret,y)->x,y{var a;if x{}else{}}#", "region a 0 1 secret;\nfn f(x secret, y) -> x, y {\n\tvar a;\n\tif x {\n\t}\n}\n")
	wantNice(t, "fn f() { x=(1+-2);a[1]=f;a,b=f(1,2); }", "fn f() {\n\tx = (1 + -2);\n\ta[1] = f;\n\ta, b = f(1, 2);\n}\n")
}

// P6.2: a text whose program's text is as long as may be, and one byte longer.
func TestLongNice(t *testing.T) {
	sets := func(name string, n int) string { return "fn " + name + "(){" + strings.Repeat("a=1;", n) + "}" }
	nice, f := parse.Nice(sets("abcdef", 8190))
	if f != fine || len(nice) != 65536 {
		t.Error(f, len(nice))
	}
	wantNice(t, nice, nice)
	for _, text := range []string{sets("abcdefg", 8190), sets("a", 8191), sets("a", 16000), "fn f(){" + strings.Repeat("for i 0 1{", 60) + strings.Repeat("a=1;", 1000) + strings.Repeat("}", 61)} {
		if f := parse.Check(text); f != fine {
			t.Error(f)
		}
		if nice, f := parse.Nice(text); nice != "" || f != tooLong() {
			t.Errorf("%.60q of %d bytes: %d bytes, %v", text, len(text), len(nice), f)
		}
	}
	// What is wrong with the text itself is told first.
	wantFault(t, sets("a", 16000)+";", syntax(1, len(sets("a", 16000))+1))
}

// P6.3, P0.4: what is told of a program says that program, however it is laid out.
func TestSomePrograms(t *testing.T) {
	m := maker{rand.New(rand.NewSource(62))}
	for range 400 {
		p := m.program()
		text, errno := pretty.Text(p)
		if errno != api.OK {
			continue
		}
		wantProgram(t, text, p)
		wantNice(t, text, text)
		if other := laid(m.Rand, tokensOf(t, text)); len(other) <= 65536 {
			wantProgram(t, other, p)
			wantNice(t, other, text)
		}
		if l := tokensOf(t, text); len(lex.Plain(l...)) <= 65536 {
			wantProgram(t, lex.Plain(l...), p)
		}
	}
}

// P6.3: the same of expressions and statements.
func TestSomeParts(t *testing.T) {
	m := maker{rand.New(rand.NewSource(63))}
	for range 1000 {
		e := m.expr(1 + m.Intn(6))
		text, errno := pretty.Expr(e)
		if errno != api.OK {
			t.Fatal(errno)
		}
		wantExpr(t, text, e)
		wantExpr(t, laid(m.Rand, tokensOf(t, text)), e)
		l := m.stmts(1 + m.Intn(4))
		var lines []string
		for _, line := range pretty.Lines(l...) {
			lines = append(lines, line)
		}
		wantStmts(t, strings.Join(lines, ""), l...)
		wantStmts(t, strings.Join(lines, "# a note\n"), l...)
	}
}

// P6.3: a program that has everything, and is as deep as may be.
func TestDeepProgram(t *testing.T) {
	e := name("x")
	for range 62 {
		e = op(api.OpNot, e)
	}
	s := call(nil, "f")
	for range 63 {
		s = when(name("x"), stmts{call(nil, "f")}, stmts{s})
	}
	p := api.Program{Funcs: []api.Func{{Name: "f", Body: stmts{set("x", e), put("r", e, e), call([]string{"x"}, "f", e, e), s}}}}
	text := textOf(t, p)
	wantProgram(t, text, p)
	wantNice(t, text, text)
}

// P6.3, P0.7, P0.8: programs' texts in which some tokens are others, and texts of any tokens.
func TestSomeTexts(t *testing.T) {
	m := maker{rand.New(rand.NewSource(64))}
	good := 0
	for range 1500 {
		text, errno := pretty.Text(m.program())
		if errno != api.OK || len(text) > 2000 {
			continue
		}
		l := tokensOf(t, text)
		for range m.Intn(3) {
			if len(l) > 0 {
				l[m.Intn(len(l))] = tokensOf(t, someTokens()[m.Intn(len(someTokens()))])[0]
			}
		}
		if wantLike(t, laid(m.Rand, l)) {
			good++
		}
	}
	if good < 200 || good > 1300 {
		t.Error("the texts try too little: good are", good)
	}
	for range 4000 {
		var l tokens
		for range m.Intn(12) {
			l = append(l, tokensOf(t, someTokens()[m.Intn(len(someTokens()))])[0])
		}
		wantLike(t, laid(m.Rand, l))
	}
}

// P6.3, P0.8: any bytes.
func TestAnyBytes(t *testing.T) {
	r := rand.New(rand.NewSource(65))
	for range 4000 {
		b := make([]byte, r.Intn(40))
		r.Read(b)
		wantLike(t, string(b))
	}
	near := " \n#xy01_()[]{},;=+~-<>$\x00\xff"
	for range 8000 {
		b := make([]byte, r.Intn(20))
		for i := range b {
			b[i] = near[r.Intn(len(near))]
		}
		wantLike(t, string(b))
	}
	for i := range whole {
		for _, c := range []string{"", " ", "x", "1", ";", "\n", "#", "$", "\x00"} {
			text := whole[:i] + c + whole[i+1:]
			if f := model("<program>", text); f != fine {
				wantFault(t, text, f)
			} else {
				wantSaid(t, text)
			}
		}
	}
}
