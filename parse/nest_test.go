package parse_test

import (
	"math/rand"
	"slices"
	"strings"
	"testing"

	"muffle/api"
	"muffle/parse"
	"muffle/pretty"
)

// around is a way in which a thing stands within another one: what is ahead of it, and behind.
// The mark @ stands ahead of the first thing that stands within the outer one.
type around struct{ ahead, behind string }

// exprWays are those in which an expression stands within an expression.
func exprWays() []around {
	l := []around{{"~@", ""}, {"-@", ""}, {"r[@", "]"}, {"pick(@", ", 1, 2)"}, {"pick(@1, ", ", 2)"}, {"pick(@1, 2, ", ")"}}
	for _, sign := range signTexts() {
		l = append(l, around{"(@", " " + sign + " 1)"}, around{"(@1 " + sign + " ", ")"})
	}
	return l
}

// partWays are those in which an expression stands within a statement.
func partWays() []around {
	return []around{
		{"x = @", ";"}, {"x[@", "] = 1;"}, {"x[@1] = ", ";"}, {"if @", " { }"}, {"if @", " { } else { }"}, {"while @", " { }"},
		{"f(@", ");"}, {"f(@1, ", ");"}, {"f(@1, 2, ", ", 3);"}, {"x = f(@", ");"}, {"x, y = f(@1, ", ");"},
	}
}

// stmtWays are those in which a statement stands within a statement.
func stmtWays() []around {
	return []around{
		{"for i 0 1 { @", "}"}, {"for i 0 1 { @f(); ", "}"}, {"for i 0 1 { @", " f(); } f();"}, {"if @x { ", "}"}, {"if @x { ", "} else { f(); }"}, {"if @x { f(); } else { ", "}"}, {"while @x { ", "}"},
	}
}

func unmarked(s string) string {
	return strings.ReplaceAll(s, "@", "")
}

// within is a thing within so many others; the mark is left in the one that is the 64th, of all that are begun ahead of it.
func (w around) within(n, begun int, inner string) string {
	var b strings.Builder
	for i := range n {
		if i+begun == 63 {
			b.WriteString(w.ahead)
		} else {
			b.WriteString(unmarked(w.ahead))
		}
	}
	return b.String() + inner + strings.Repeat(w.behind, n)
}

// P6.1: an expression of depth 64, and of 65, by each way.
func TestDeepExprs(t *testing.T) {
	for _, w := range exprWays() {
		for _, leaf := range []string{"1", "x", "18446744073709551615"} {
			text := w.within(63, 0, leaf)
			if e, f := parse.Expr(text); f != fine || pretty.Depth(e) != 64 {
				t.Errorf("%q: %v, %d deep", text, f, pretty.Depth(e))
			}
			text, want := at(api.ErrNest, w.within(64, 0, leaf))
			wantExprFault(t, text, want)
			text, want = at(api.ErrNest, w.within(70, 0, leaf))
			wantExprFault(t, text, want)
		}
		for _, leaf := range []string{"~x", "-1", "r[1]", "(x + 1)", "pick(1, 2, 3)"} {
			if e, f := parse.Expr(w.within(62, 0, leaf)); f != fine || pretty.Depth(e) != 64 {
				t.Errorf("%v, %d deep", f, pretty.Depth(e))
			}
			text := w.within(63, 0, leaf)
			wantExprFault(t, text, model("<expr>", text))
			if f := model("<expr>", text); f.Errno != api.ErrNest {
				t.Errorf("%q: %v", text, f)
			}
		}
	}
}

// P6.1: the place in a leaf that is too deep by one.
func TestDeepLeaves(t *testing.T) {
	nots := strings.Repeat("~", 63)
	for _, leaf := range []string{"~@x", "-@1", "r[@1]", "(@x + 1)", "(\n\t@x+1)", "pick(@1, 2, 3)", "pick( # a note\n @r[1], 2, 3)", "(@((x + 1) + 1) + 1)"} {
		text, want := at(api.ErrNest, nots+leaf)
		wantExprFault(t, text, want)
	}
}

// P6.1: statements of depth 64, and of 65, by each way in which an expression stands within one, and within an expression.
func TestDeepParts(t *testing.T) {
	for _, part := range partWays() {
		for _, w := range exprWays() {
			text := unmarked(part.ahead) + w.within(62, 1, "x") + part.behind
			l, f := parse.Stmts(text)
			if f != fine || pretty.Deep(l...) != 64 {
				t.Errorf("%q: %v, %d deep", text, f, pretty.Deep(l...))
			}
			for _, n := range []int{63, 64, 90} {
				text, want := at(api.ErrNest, unmarked(part.ahead)+w.within(n, 1, "x")+part.behind)
				wantStmtsFault(t, text, want)
				text, want = at(api.ErrNest, "fn f() {\n"+unmarked(part.ahead)+w.within(n, 1, "x")+part.behind+"}")
				wantFault(t, text, want)
			}
		}
	}
}

// P6.1: statements of depth 64, and of 65, by each way in which one stands within another.
func TestDeepStmts(t *testing.T) {
	for _, w := range stmtWays() {
		text := w.within(63, 0, "f();")
		l, f := parse.Stmts(text)
		if f != fine || pretty.Deep(l...) != 64 {
			t.Errorf("%q: %v, %d deep", text, f, pretty.Deep(l...))
		}
		wantSaid(t, "fn f() { "+text+" }")
		for _, n := range []int{64, 65, 100} {
			text, want := at(api.ErrNest, w.within(n, 0, "f();"))
			wantStmtsFault(t, text, want)
			text, want = at(api.ErrNest, "region a 0 1;\nfn f() -> x { var x;\n\n"+w.within(n, 0, "f();")+" }")
			wantFault(t, text, want)
		}
		for _, part := range partWays() {
			l, f := parse.Stmts(unmarked(w.within(62, 0, part.ahead+"1"+part.behind)))
			if f != fine || pretty.Deep(l...) != 64 {
				t.Errorf("%v, %d deep", f, pretty.Deep(l...))
			}
			text, want := at(api.ErrNest, w.within(63, 0, part.ahead+"1"+part.behind))
			wantStmtsFault(t, text, want)
		}
		// A statement that has no expression is no deeper for it.
		for _, leaf := range []string{"f();", "x = f();", "x, y = f();", "for i 0 1 { }"} {
			if l, f := parse.Stmts(unmarked(w.within(63, 0, leaf))); f != fine || pretty.Deep(l...) != 64 {
				t.Errorf("%s: %v, %d deep", leaf, f, pretty.Deep(l...))
			}
		}
	}
}

// P6.1: how deep it was ahead of a thing says nothing of what is behind it.
func TestDeepBeside(t *testing.T) {
	nots := strings.Repeat("~", 62) + "x"
	if l, f := parse.Stmts(strings.Repeat("x = "+nots+"; f("+nots+", "+nots+"); ", 20)); f != fine || len(l) != 40 || pretty.Deep(l...) != 64 {
		t.Error(f, len(l))
	}
	wantExprFault(t, "("+nots+" + ~"+nots+")", nest(1, 1+63+3+1+62+1))
	if _, f := parse.Expr("(~" + nots + " + ~" + nots + ")"); f != nest(1, 1+1+62+1) {
		t.Error(f)
	}
	if e, f := parse.Expr("pick(" + nots + ", " + nots + ", " + nots + ")"); f != fine || pretty.Depth(e) != 64 {
		t.Error(f)
	}
	fors := strings.Repeat("for i 0 1 { ", 63) + "f();" + strings.Repeat("}", 63)
	wantSaid(t, "fn f() { "+fors+fors+"} fn g() { "+fors+" }")
}

// P6.1: many more than may be, and nothing that closes them.
func TestVeryDeep(t *testing.T) {
	for _, ahead := range []string{"~", "-", "(", "r[", "pick("} {
		wantExprFault(t, strings.Repeat(ahead, 65536/len(ahead)), nest(1, 64*len(ahead)+1))
	}
	wantStmtsFault(t, strings.Repeat("for i 0 1{", 6000), nest(1, 64*10+1))
	wantStmtsFault(t, strings.Repeat("if x {", 6000), nest(1, 63*6+4))
	wantStmtsFault(t, strings.Repeat("while x{", 6000), nest(1, 63*8+7))
	wantStmtsFault(t, strings.Repeat("if x{}else{", 5000), nest(1, 63*11+4))
	wantExprFault(t, strings.Repeat("~\n", 1000), nest(65, 1))
}

// exprBegins are those of someTokens with which an expression begins; stmtBegins likewise.
func exprBegins() []string {
	return strings.Fields("pick ( - ~ x forx 0 7 2147483647 2147483648 18446744073709551615")
}

func stmtBegins() []string {
	return strings.Fields("if while for x forx")
}

// tooDeep is what is wrong with a token in a place that is too deep, if it begins what may stand there, and if it does not.
func tooDeep(begins bool) api.Errno {
	if begins {
		return api.ErrNest
	}
	return api.ErrSyntax
}

// wantTooDeep wants that at the mark of a text of statements, by themselves and in a function.
func wantTooDeep(t *testing.T, begins bool, marked string) {
	t.Helper()
	why := tooDeep(begins)
	text, want := at(why, marked)
	wantStmtsFault(t, text, want)
	text, want = at(why, "fn f() {\n"+marked)
	wantFault(t, text, want)
}

// aheads are what stands ahead of a place for an expression that would stand within so many others, by each way. The innermost way is one in which that place is the first one: any other is as deep.
func aheads(n int) []string {
	var l []string
	for _, w := range exprWays() {
		for _, last := range []string{"~", "-", "r[", "(", "pick("} {
			l = append(l, strings.Repeat(unmarked(w.ahead), n-1)+last)
		}
	}
	return l
}

// P6.1: each token in a place for an expression that would stand within 64 others, by each way: only one with which an expression begins is too deep there.
func TestTokensTooDeepForExprs(t *testing.T) {
	fors := strings.Repeat("for i 0 1 {", 63)
	for _, x := range someTokens() {
		begins := slices.Contains(exprBegins(), x)
		for _, behind := range []string{"", "\n) x"} {
			for _, ahead := range aheads(64) {
				text, want := at(tooDeep(begins), ahead+" @"+x+behind)
				wantExprFault(t, text, want)
			}
			for _, ahead := range aheads(63) {
				wantTooDeep(t, begins, "while "+ahead+" @"+x+behind)
			}
			wantTooDeep(t, begins, fors+"x = @"+x+behind)
			wantTooDeep(t, begins, fors+"x[ @"+x+behind)
			wantTooDeep(t, begins, fors+"if @"+x+behind)
			wantTooDeep(t, begins, fors+"while @"+x+behind)
			if x != ")" {
				wantTooDeep(t, begins, fors+"f( @"+x+behind)
				wantTooDeep(t, begins, fors+"x = f( @"+x+behind)
				wantTooDeep(t, begins, fors+"x, y = f( @"+x+behind)
			}
		}
	}
}

// P6.1: each token in a block within 64 statements, by each way: only one with which a statement begins is too deep there.
func TestTokensTooDeepForStmts(t *testing.T) {
	for _, ahead := range []string{"for i 0 1 {", "while 1 {", "if 1 {", "if 1 { } else {"} {
		// The last one is a for: a condition of its own would be too deep.
		fors := strings.Repeat(ahead, 63) + "for i 0 1 {"
		for _, x := range someTokens() {
			if x == "}" {
				continue
			}
			begins := slices.Contains(stmtBegins(), x)
			for _, behind := range []string{"", " x", " ;", "\n)", "[1] = 2;"} {
				wantTooDeep(t, begins, fors+" @"+x+behind)
				wantTooDeep(t, begins, fors+" } for i 0 1 { @"+x+behind)
			}
		}
	}
}

// P6.1: the text's end begins nothing: it is never too deep.
func TestEndsTooDeep(t *testing.T) {
	for _, behind := range []string{"", "\n", " # a note", "\n\n\t"} {
		end := func(text string) api.Fault {
			return syntax(strings.Count(text, "\n")+1, len(text)-strings.LastIndex(text, "\n"))
		}
		for _, ahead := range aheads(64) {
			text := ahead + behind
			wantExprFault(t, text, end(text))
		}
		for _, last := range []string{"for i 0 1 {", "f(", "x = f(", "x, y = f(", "x = ", "x[", "if", "while"} {
			text := strings.Repeat("for i 0 1 {", 63) + last + behind
			wantStmtsFault(t, text, end(text))
			wantFault(t, "fn f() {"+text, end("fn f() {"+text))
		}
	}
	// Signs of all kinds, and nothing behind them.
	r := rand.New(rand.NewSource(66))
	for range 200 {
		var b strings.Builder
		for range 64 {
			b.WriteByte("~-"[r.Intn(2)])
		}
		wantExprFault(t, b.String(), syntax(1, 65))
		wantExprFault(t, b.String()+"\n]", syntax(2, 1))
		wantExprFault(t, b.String()+" -", nest(1, 66))
	}
}

// P6.1: ErrSyntax and ErrNest, each ahead of the other.
func TestNestAndSyntax(t *testing.T) {
	nots, fors := strings.Repeat("~", 64), strings.Repeat("for i 0 1 { ", 64)
	// ErrNest ahead.
	wantExprFault(t, nots+"x)", nest(1, 65))
	wantExprFault(t, nots+"x x", nest(1, 65))
	wantExprFault(t, nots+"f(1)", nest(1, 65))
	wantExprFault(t, nots+"pick x", nest(1, 65))
	wantStmtsFault(t, "x = "+nots+"x", nest(1, 4+64))
	wantFault(t, "fn f() { x = "+nots+"x; } ;", nest(1, 13+64))
	wantFault(t, "fn f() { "+fors+"f() fn", nest(1, 10+64*12))
	// ErrSyntax ahead.
	wantExprFault(t, "(x "+nots+"x)", syntax(1, 4))
	wantExprFault(t, "x "+nots+"x", syntax(1, 3))
	wantExprFault(t, nots[1:]+") "+nots+"x", syntax(1, 64))
	wantExprFault(t, nots+") x", syntax(1, 65))
	wantStmtsFault(t, "; "+fors, syntax(1, 1))
	wantStmtsFault(t, fors[12:]+"; "+fors, syntax(1, 63*12+1))
	wantStmtsFault(t, fors+"; x", syntax(1, 64*12+1))
	wantFault(t, "fn f( { x = "+nots+"x; }", syntax(1, 7))
	// A call's name is no expression, and its parentheses may be empty; what is no call is one.
	wantStmtsFault(t, fors[12:]+"x = f(1", nest(1, 63*12+7))
	wantStmtsFault(t, fors[12:]+"x = f(,", syntax(1, 63*12+7))
	wantStmtsFault(t, fors[12:]+"x = f(); ]", syntax(1, 63*12+10))
	wantStmtsFault(t, fors[12:]+"x, y = f;", syntax(1, 63*12+9))
	wantStmtsFault(t, fors[12:]+"x = f;", nest(1, 63*12+5))
	wantStmtsFault(t, fors[12:]+"x = f", nest(1, 63*12+5))
}
