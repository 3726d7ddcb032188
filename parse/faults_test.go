package parse_test

import (
	"slices"
	"strings"
	"testing"

	"muffle/api"
	"muffle/lex"
	"muffle/parse"
)

// P6.1: what is wrong with a program's text, and where: at the mark @.
func TestFaults(t *testing.T) {
	for _, marked := range []string{
		// regions
		"region @", "region a @", "region a 0 @", "region a 0 1 @", "region a 0 1 secret @", "region @1 0 1;", "region @for 0 1;", "region a @b 1;", "region a 0 @b;", "region a 0 @secret;", "region a 0 @;", "region a @;",
		"region a 0 1 @2;", "region a 0 1 secret @secret;", "region a 0 1 @x;", "region a @-1 1;", "region a 0@, 1;", "@regions a 0 1;", "region a 0 1;@;", "region a 0 1; region @fn f() {}",
		"fn f() {}\n@region a 0 1;", "region a 0 1; fn f() {} @region a 0 1;",
		// numbers that are an Addr or a Size
		"region a @2147483648 1;", "region a 1 @2147483648;", "region a 0 @18446744073709551615;", "region a @4294967296 1;", "fn f() { array r @2147483648; }", "fn f() { stack r @2147483648; }", "fn f() { stack r @9223372036854775808 secret; }",
		// functions
		"@f() {}", "@x", "@;", "@}", "@secret", "@1", "@var x;", "@x = 1;", "fn @", "fn f@", "fn f @{}", "fn @for() {}", "fn @1() {}", "fn @() {}", "fn f(@", "fn f(@,) {}", "fn f(x@", "fn f(x @y) {}", "fn f(x,@) {}", "fn f(x,@", "fn f(@1) {}", "fn f(@secret) {}", "fn f(@secret x) {}", "fn f(x secret @secret) {}", "fn f(x secret @y) {}", "fn f(x secret @", "fn f(@var x) {}", "fn f(@[x]) {}",
		"fn f() @", "fn f()@;", "fn f() @a {}", "fn f() @- > a {}", "fn f() -> @{}", "fn f() -> @", "fn f() -> a@", "fn f() -> a, @{}", "fn f() -> a @b {}", "fn f() -> @(a) {}", "fn f() -> a @secret {}", "fn f() -> @1 {}", "fn f() -> a @-> b {}",
		"fn f() {@", "fn f() { } @}", "fn f() {}@;", "fn f() {} @x", "fn f() { @fn g() {} }", "fn f() { @{ } }", "fn f() { @; }", "fn f() {\n\n@", "fn f() { # }@",
		// variables
		"fn f() { var @", "fn f() { var @; }", "fn f() { var x @}", "fn f() { var x @y; }", "fn f() { var x@, y; }", "fn f() { var x @1; }", "fn f() { var x @secret; }", "fn f() { var x @= 1; }", "fn f() { var @var; }", "fn f() { array r @; }", "fn f() { array @4; }", "fn f() { array r 4 @}", "fn f() { array r@[4]; }", "fn f() { array r 4 secret @secret; }", "fn f() { array r @secret 4; }", "fn f() { stack r @x; }", "fn f() { stack @4 r; }", "fn f() { stack r 4 @5; }",
		"fn f() { f(); @var x; }", "fn f() { if x { @var x; } }", "fn f() { x = 1; @array r 4; }", "fn f() { x = 1; @stack r 4; }", "fn f() { var x; @region a 0 1; }",
	} {
		text, want := at(api.ErrSyntax, marked)
		wantFault(t, text, want)
		if got := model("<program>", text); got != want {
			t.Errorf("the tests' own: %q: %v, not %v", text, got, want)
		}
	}
}

// P6.1: what is wrong with statements, and where.
func TestStmtFaults(t *testing.T) {
	for _, marked := range []string{
		"@1", "@;", "@}", "@{ }", "@( )", "@else { }", "@pick(1, 2, 3);", "@secret", "@fn f() {}", "@~x;", "@-x;", "x@",
		"x @;", "x @1;", "x @y;", "x @== 1;", "x @+ 1;", "x @-> 1;", "x @) = 1;", "x @{ }", "x @for", "x, @", "x, @= f();", "x, @1 = f();", "x, y @;", "x, y@[1] = f();", "x,@, y = f();", "x, y = @1;", "x, y = @(f());", "x, y = f@;", "x, y = f@[1];", "x, y = @~f();", "x, y = @pick(1, 2, 3);", "x, y = f@, g();", "x, y = @", "x, y = f@",
		"x = @;", "x = @", "x = 1@", "x = 1 @}", "x = 1 @+ 2;", "x = 1@, 2;", "x = y @z;", "x = y@, z;", "x = @= 1;", "x = (1 + 2@;", "x = f()@", "x = f() @+ 1;", "x = ~f@();", "x = (f@() + 1);", "x = f()@[1];", "x = @if;", "x = f@{};", "x = y @= 1;",
		"x[@] = 1;", "x[@", "x[1@", "x[1@;", "x[1 @2] = 1;", "x[1@, 2] = 1;", "x[1]@", "x[1] @;", "x[1] @== 2;", "x[1]@[2] = 3;", "x[1] = @;", "x[1] = 2@", "x[1] = f@();", "x[1]@, y = f();", "x[1] = 2 @x[2] = 3;",
		"f(@", "f(@;", "f(1@", "f(1,@);", "f(@, 1);", "f(1 @2);", "f(1)@", "f(1) @}", "f(1);@;", "f() @= 1;", "f()@, x = g();", "f(x @= 1);", "f(g@());", "f(@{ });",
		"if @{ }", "if @", "if x @", "if x @;", "if x @y { }", "if x {@", "if x { } else @", "if x { } else @;", "if x { } else @if y { }", "if x { } else { @", "if x { } else { } @else { }", "if x { }@;", "if (x@) { }", "if x @f();", "if @= { }", "if x @= 1 { }",
		"while @{ }", "while @", "while x @", "while x {@", "while x { } @else { }", "while x { } while @", "while f@() { }", "while x @; ",
		"for @", "for i @", "for i 0 @", "for i 0 1 @", "for i 0 1 {@", "for @0 1 { }", "for i @{ }", "for i 0 @{ }", "for i 0 @x { }", "for i @x 1 { }", "for i 0 @-1 { }", "for i 0@, 1 { }", "for i @= 0 1 { }", "for i 0 1 @2 { }", "for i 0 1 @;", "for @for 0 1 { }", "for i 0 1 { } @else { }", "for @(i 0 1) { }",
		"f();\n\tx = 1 \n@", "f(); # x\n@)",
	} {
		text, want := at(api.ErrSyntax, marked)
		wantStmtsFault(t, text, want)
		if got := model("<stmts>", text); got != want {
			t.Errorf("the tests' own: %q: %v, not %v", text, got, want)
		}
	}
}

// P6.1: what is wrong with an expression, and where.
func TestExprFaults(t *testing.T) {
	for _, marked := range []string{
		"@", "@)", "@]", "(@", "(@)", "(x@", "(x@)", "(x @y)", "(x @~ y)", "(x @= y)", "(x @-> y)", "(x @, y)", "(x @; y)", "(x @secret y)", "(x + @", "(x + @)", "(x + @+ y)", "(x + y@", "(x + y @+ z)", "(x + y@]", "(x @1)", "(x @) ", "((x + y)@)", "((x + y) + z@",
		"~@", "~@)", "-@", "-@+ 1", "@+ 1", "@* x", "1@(", "1 @2", "1 @x", "1 @+ 1", "x[@", "x[@]", "x[1@", "x[1@)", "x[1 @2]", "x[1]@[2]", "x[1] @x", "1@[0]", "(x + 1)@[0]", "x@(1)", "x@;", "x@()", "x@, y", "~x @y",
		"pick@", "pick@[1]", "pick(@", "pick(@)", "pick(1@", "pick(1@)", "pick(1,@)", "pick(1, 2@)", "pick(1, 2,@)", "pick(1, 2, 3@, 4)", "pick(1, 2, 3@", "pick(1, 2, 3) @x", "pick(@, 1, 2, 3)", "pick(1 @2, 3)", "pick @x",
		"@for", "@if", "@fn", "@secret", "@}", "@{", "@;", "@,", "@=", "@->", "@==", "(@for + 1)", "(1 @for 2)",
	} {
		text, want := at(api.ErrSyntax, marked)
		wantExprFault(t, text, want)
		if got := model("<expr>", text); got != want {
			t.Errorf("the tests' own: %q: %v, not %v", text, got, want)
		}
	}
}

// P6.1: other numbers than an Addr or a Size may be any words.
func TestNumbers(t *testing.T) {
	for _, n := range strings.Fields("0 1 2147483647 2147483648 4294967296 9223372036854775807 9223372036854775808 18446744073709551615") {
		x, _ := lex.Number(n)
		wantExpr(t, n, word(x))
		wantStmts(t, "for i "+n+" "+n+" { r["+n+"] = "+n+"; }", rounds("i", x, x, put("r", word(x), word(x))))
	}
	wantExprFault(t, "(1 + 18446744073709551616)", syntax(1, 6))
	wantStmtsFault(t, "for i 0 18446744073709551616 { }", syntax(1, 9))
	wantStmtsFault(t, "for i 00 1 { }", syntax(1, 7))
}

// P6.1: a fault of layer 4 counts ahead of all others, wherever it is.
func TestFaultsOfTokens(t *testing.T) {
	for text, want := range map[string]api.Fault{
		"fn f() { $ }":                             syntax(1, 10),
		"fn abcdefghijklmnopq() {}":                {Errno: api.ErrName, Line: 1, Col: 4},
		"; ; ; $":                                  syntax(1, 7),
		"; ; ;\n abcdefghijklmnopq":                {Errno: api.ErrName, Line: 2, Col: 2},
		"; 07":                                     syntax(1, 3),
		"fn f() { x = ; } 18446744073709551616":    syntax(1, 18),
		strings.Repeat("~", 100) + " 1x":           syntax(1, 102),
		strings.Repeat("for i 0 1 {", 100) + "\n!": syntax(2, 1),
		"region a 2147483648 1;\n\t_":              syntax(2, 2),
		"x \x00":                                   syntax(1, 3),
		"# \x00 $\n\xff":                           syntax(2, 1),
		"fn f() { } ; abcdefghijklmnopq $":         {Errno: api.ErrName, Line: 1, Col: 14},
		"fn f() { } ; $ abcdefghijklmnopq":         syntax(1, 14),
	} {
		wantFault(t, text, want)
		wantExprFault(t, text, want)
		wantStmtsFault(t, text, want)
	}
}

// P6.1: texts that end too early, behind each of their tokens: the place is the text's end.
func TestEarlyEnds(t *testing.T) {
	l := tokensOf(t, whole)
	good := 0
	for n := range l {
		text := lex.Plain(l[:n]...)
		for _, behind := range []string{"", " ", "\n", "\n\n\t", " # a note", "# a note\n", "\r\n  #\n\t"} {
			whole := text + behind
			f := parse.Check(whole)
			if f == fine {
				good++
				continue
			}
			line, col := strings.Count(whole, "\n")+1, len(whole)-strings.LastIndex(whole, "\n")
			wantFault(t, whole, syntax(line, col))
		}
		wantLike(t, text)
	}
	if good != 5*7 {
		t.Error("so many may end there:", good)
	}
	wantFault(t, "fn f() {\n", syntax(2, 1))
	wantFault(t, "fn f() {", syntax(1, 9))
	wantFault(t, "region a 0 1\n#", syntax(2, 2))
	wantExprFault(t, "(x +\n", syntax(2, 1))
	wantStmtsFault(t, "x = 1", syntax(1, 6))
	wantStmtsFault(t, "x = 1\n\n", syntax(3, 1))
}

// P6.1: a token too many at the end.
func TestOneTooMany(t *testing.T) {
	for _, x := range someTokens() {
		if x != "fn" {
			wantFault(t, whole+x, syntax(strings.Count(whole, "\n")+1, 1))
		}
		wantExprFault(t, "(x + 1) "+x, syntax(1, 9))
		wantLike(t, "x = 1; "+x)
		wantLike(t, "region a 0 1; "+x)
		wantLike(t, "x "+x)
	}
}

// eachWrong shows a text's tokens with one left out, told twice, or replaced, one at a time; but for so many first and last ones.
func eachWrong(t *testing.T, text string, first, last int, see func(text string)) {
	l := tokensOf(t, text)
	for i := first; i < len(l)-last; i++ {
		ahead, behind := lex.Plain(l[:i]...), lex.Plain(l[i+1:]...)
		see(ahead + " " + behind)
		see(ahead + "\n" + l[i].Text + " " + l[i].Text + "\n" + behind)
		for _, x := range someTokens() {
			see(ahead + " " + x + "\n" + behind)
		}
	}
}

// P6.1, P0.7: each token of a good program left out, told twice, and replaced by another, one at a time.
func TestEachTokenWrong(t *testing.T) {
	good, bad := 0, 0
	eachWrong(t, whole, 0, 0, func(text string) {
		want := model("<program>", text)
		if want != fine {
			bad++
			wantFault(t, text, want)
		} else {
			good++
			wantSaid(t, text)
		}
	})
	if good < 500 || bad < 5000 {
		t.Error("that tries too little:", good, bad)
	}
}

// P6.1: the same where it is so deep that there is no room.
func TestEachDeepTokenWrong(t *testing.T) {
	errnos := map[api.Errno]int{}
	ofExpr := func(text string) {
		wantExprLike(t, text)
		_, f := parse.Expr(text)
		errnos[f.Errno]++
	}
	ofStmts := func(text string) {
		wantStmtsLike(t, text)
		_, f := parse.Stmts(text)
		errnos[f.Errno]++
	}
	eachWrong(t, strings.Repeat("~", 61)+"(x + pick(r[1], -y, 2))", 55, 0, ofExpr)
	eachWrong(t, strings.Repeat("~-", 31)+"(x + 1)", 0, 0, ofExpr)
	fors := func(n int) string { return strings.Repeat("for i 0 1 { ", n) }
	eachWrong(t, fors(61)+"x = ~y; r[1] = ~2; if r[y] { f(); } else { x = 1; } while ~1 { x = g(); } f(~1, x);"+strings.Repeat("}", 61), 61*5, 60, ofStmts)
	eachWrong(t, fors(63)+"f(); x = f(); x, y = f(); for i 0 1 { } f();"+strings.Repeat("}", 63), 62*5, 62, ofStmts)
	if errnos[api.OK] < 100 || errnos[api.ErrNest] < 100 || errnos[api.ErrSyntax] < 100 {
		t.Error("that tries too little:", errnos)
	}
}

// P6.1: all texts of a few tokens.
func TestShortTexts(t *testing.T) {
	some := strings.Fields("x 1 ( ) [ ] , ; = + ~ { } if pick fn secret")
	for _, a := range some {
		wantLike(t, a)
		for _, b := range some {
			wantLike(t, a+" "+b)
			for _, c := range some {
				wantLike(t, strings.Join([]string{a, b, c}, "\n"))
			}
		}
	}
	for _, ahead := range []string{"fn f ( ", "fn f ( ) { ", "x = ", "f ( ", "( x ", "region a 0 1 ", "x [ 1 ] "} {
		for _, a := range some {
			for _, b := range some {
				wantLike(t, ahead+a+" "+b)
			}
		}
	}
}

// P6.1: each call is of its own kind of text.
func TestKindsOfTexts(t *testing.T) {
	wantFault(t, "x = 1;", syntax(1, 1))
	wantFault(t, "x", syntax(1, 1))
	wantStmtsFault(t, "fn f() { }", syntax(1, 1))
	wantStmtsFault(t, "region a 0 1;", syntax(1, 1))
	wantStmtsFault(t, "x", syntax(1, 2))
	wantStmtsFault(t, "var x;", syntax(1, 1))
	wantExprFault(t, "x;", syntax(1, 2))
	wantExprFault(t, "fn f() { }", syntax(1, 1))
	// A name is a name, whatever it names: that is layer 7's.
	names := []string{"a", "a", "a"}
	wantStmts(t, "a, a, a = a(a, a[a]);", call(slices.Clone(names), "a", name("a"), index("a", name("a"))))
}
