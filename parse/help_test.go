package parse_test

import (
	"fmt"
	"math/rand"
	"reflect"
	"slices"
	"strings"
	"testing"

	"muffle/api"
	"muffle/lex"
	"muffle/parse"
	"muffle/pretty"
)

// What the tests hold the package against is told here anew: the chapter's language as a list of rules,
// and a reader of any such list, that goes all ways at once.

type (
	exprs  = []api.Expr
	stmts  = []api.Stmt
	vars   = []api.Var
	tokens = []api.Token
)

// The fault of no text.
var fine api.Fault

// whole is a text that has everything, some of it in another way than layer 5 tells it.
const whole = `# what all see
region key 8 4 secret; region out 64 2;
fn none() { }
fn one(x secret) -> x { x = (x + 1); x = ((x - 2) * (x & 3)); x = (((x | 4) ^ (x << 5)) >> (x >>> 6)); x = ((x <<< 7) >>>> (x == 8)); x = ((x != 9) < (x <= 10)); }
fn main(x, y secret, z) -> a, b {
	var a; array r 4; array r2 2 secret; var b;
	stack s 2; stack s2 1 secret;
	a = 18446744073709551615; s[-x] = r[~x];
	for i 0 4 { r[i] = key[i]; for j 7 3 { } }
	if x { none(); } else { while (x != pick(y, 1, z)) { none(); } }
	if y { } else { }
	a, b = one(x, out[0]); a = one(x);
}
`

// rules are the chapter's language: what stands in <> is told by another line, ' | ' is between ways, N is a name, W a number,
// S one that is an Addr or a Size, SIGN one of layer 5's; anything else stands as it is.
const rules = `
<program> : <regions> <functions>
<regions> : | <region> <regions>
<functions> : | <function> <functions>
<region> : region N S S <secret> ;
<secret> : | secret
<function> : fn N ( <params> ) <rets> { <vars> <stmts> }
<params> : | N <secret> <more_params>
<more_params> : | , N <secret> <more_params>
<rets> : | -> N <more_names>
<more_names> : | , N <more_names>
<vars> : | <var> <vars>
<var> : var N ; | array N S <secret> ; | stack N S <secret> ;
<stmts> : | <stmt> <stmts>
<stmt> : N = <expr> ; | N [ <expr> ] = <expr> ; | if <expr> <block> <else> | while <expr> <block> | for N W W <block> | N <more_names> = N ( <args> ) ; | N ( <args> ) ;
<else> : | else <block>
<block> : { <stmts> }
<args> : | <expr> <more_args>
<more_args> : | , <expr> <more_args>
<expr> : W | N | N [ <expr> ] | ~ <expr> | - <expr> | ( <expr> SIGN <expr> ) | pick ( <expr> , <expr> , <expr> )
`

// ways are the rules, by what they tell: each a list of ways, each of these a list of words.
var ways = func() map[string][][]string {
	out := map[string][][]string{}
	for _, line := range strings.Split(strings.TrimSpace(rules), "\n") {
		what, all, _ := strings.Cut(line, " :")
		for _, way := range strings.Split(all, " |") {
			out[what] = append(out[what], strings.Fields(way))
		}
	}
	return out
}()

// link is what has yet to come: a word, and what is behind it.
type link struct {
	word string
	next *link
}

// path is one of the ways that are gone at once.
type path struct {
	todo   *link
	within int // how many expressions and statements are begun
	deep   int // with which token one begins that stands within too many others, if that token fits; -1: with none
}

// leave, among words, ends an expression or a statement.
const leave = "leave"

// spread are the paths that one comes to ahead of the token i, each at a word that is a token's, or at the end.
func spread(p path, i int) []path {
	if p.todo == nil {
		return []path{p}
	}
	word, todo := p.todo.word, p.todo.next
	if word == leave {
		return spread(path{todo, p.within - 1, p.deep}, i)
	}
	if ways[word] == nil {
		return []path{p}
	}
	if word == "<expr>" || word == "<stmt>" {
		if p.within >= 64 && p.deep < 0 {
			p.deep = i
		}
		p.within++
		todo = &link{leave, todo}
	}
	var out []path
	for _, way := range ways[word] {
		next := todo
		for _, w := range slices.Backward(way) {
			next = &link{w, next}
		}
		out = append(out, spread(path{next, p.within, p.deep}, i)...)
	}
	return out
}

func fits(word string, t api.Token) bool {
	switch word {
	case "N":
		return t.Kind == api.TokenName
	case "W":
		return t.Kind == api.TokenNumber
	case "S":
		return t.Kind == api.TokenNumber && t.Word < 1<<31
	case "SIGN":
		return slices.Contains(signTexts(), t.Text)
	}
	return (t.Kind == api.TokenOwn || t.Kind == api.TokenSign) && t.Text == word
}

// model is what is wrong with a text that should be what a rule tells.
func model(rule, text string) api.Fault {
	l, f := lex.All(text)
	if f != fine {
		return f
	}
	line, col := lex.Line(text, len(text))
	l = append(l, api.Token{Line: line, Col: col})
	paths := []path{{&link{rule, nil}, 0, -1}}
	for i, t := range l {
		nest, on := -1, false
		var next []path
		for _, p := range paths {
			for _, q := range spread(p, i) {
				can := q.todo == nil && t.Kind == 0 || q.todo != nil && fits(q.todo.word, t)
				// What is too deep has begun further ahead, or begins here, with a token that fits.
				if q.deep >= 0 && (q.deep < i || can) && (nest < 0 || q.deep < nest) {
					nest = q.deep
				}
				on = on || can && q.deep < 0
				if can && q.todo != nil {
					next = append(next, path{q.todo.next, q.within, q.deep})
				}
			}
		}
		if !on && nest >= 0 {
			return api.Fault{Errno: api.ErrNest, Line: l[nest].Line, Col: l[nest].Col}
		} else if !on {
			return syntax(t.Line, t.Col)
		}
		paths = next
	}
	return fine
}

// wantLike wants of a text, of each call, just what the model says of it; it answers whether it is a program's.
func wantLike(t *testing.T, text string) bool {
	t.Helper()
	f := model("<program>", text)
	if f != fine {
		wantFault(t, text, f)
	} else {
		wantSaid(t, text)
	}
	wantExprLike(t, text)
	wantStmtsLike(t, text)
	return f == fine
}

// wantSaid wants a text to be a program's, which says what the text says.
func wantSaid(t *testing.T, text string) {
	t.Helper()
	p, f := parse.Parse(text)
	if f != fine || !pretty.May(p) {
		t.Errorf("Parse(%.200q): %v, can be told: %v", text, f, pretty.May(p))
	}
	if f := parse.Check(text); f != fine {
		t.Errorf("Check(%.200q): %v", text, f)
	}
	plain, errno := pretty.Text(p)
	want := api.Fault{Errno: errno}
	if nice, f := parse.Nice(text); nice != plain || f != want {
		t.Errorf("Nice(%.200q): %.200q, %v; not %.200q, %v", text, nice, f, plain, want)
	}
	if errno == api.OK {
		wantTokens(t, text, plain)
	}
}

func wantExprLike(t *testing.T, text string) {
	t.Helper()
	want := model("<expr>", text)
	e, f := parse.Expr(text)
	if f != want {
		t.Errorf("Expr(%.200q): %v; not %v", text, f, want)
	}
	if f != fine {
		wantNothing(t, "Expr", text, e)
	} else if plain, errno := pretty.Expr(e); errno == api.OK {
		wantTokens(t, text, plain)
	} else if errno != api.ErrLong {
		t.Errorf("Expr(%.200q) can't be told", text)
	}
}

func wantStmtsLike(t *testing.T, text string) {
	t.Helper()
	want := model("<stmts>", text)
	l, f := parse.Stmts(text)
	if f != want {
		t.Errorf("Stmts(%.200q): %v; not %v", text, f, want)
	}
	if f != fine {
		wantNothing(t, "Stmts", text, l)
		return
	}
	var lines []string
	for _, line := range pretty.Lines(l...) {
		lines = append(lines, line)
	}
	if plain := strings.Join(lines, "\n"); len(plain) <= 65536 {
		wantTokens(t, text, plain)
	}
}

// wantTokens wants a text to have another one's tokens, but for an else with nothing.
func wantTokens(t *testing.T, text, plain string) {
	t.Helper()
	l, _ := lex.All(text)
	var want tokens
	for len(l) > 0 {
		if len(l) > 2 && lex.Plain(l[:3]...) == "else { }" {
			l = l[3:]
		} else {
			want, l = append(want, l[0]), l[1:]
		}
	}
	if got, _ := lex.All(plain); !lex.Same(got, want) {
		t.Errorf("%.200q is read as %.200q", text, plain)
	}
}

// wantFault wants a fault of a program's text, and nothing beside it.
func wantFault(t *testing.T, text string, want api.Fault) {
	t.Helper()
	p, f := parse.Parse(text)
	if f != want {
		t.Errorf("Parse(%.200q): %v; not %v", text, f, want)
	}
	wantNothing(t, "Parse", text, p)
	if f := parse.Check(text); f != want {
		t.Errorf("Check(%.200q): %v; not %v", text, f, want)
	}
	if nice, f := parse.Nice(text); nice != "" || f != want {
		t.Errorf("Nice(%.200q): %.200q, %v; not %v", text, nice, f, want)
	}
}

func wantNothing(t *testing.T, call, text string, x any) {
	t.Helper()
	v := reflect.ValueOf(x)
	if v.Kind() == reflect.Slice && v.Len() > 0 || v.Kind() != reflect.Slice && !v.IsZero() {
		t.Errorf("%s(%.200q) answers %v beside a fault", call, text, x)
	}
}

func wantProgram(t *testing.T, text string, want api.Program) {
	t.Helper()
	if p, f := parse.Parse(text); f != fine || !pretty.Same(p, want) {
		t.Errorf("Parse(%.200q): %+v, %v; not %+v", text, p, f, want)
	}
	if f := parse.Check(text); f != fine {
		t.Errorf("Check(%.200q): %v", text, f)
	}
}

func wantExpr(t *testing.T, text string, want api.Expr) {
	t.Helper()
	if e, f := parse.Expr(text); f != fine || !pretty.SameExpr(e, want) {
		t.Errorf("Expr(%.200q): %+v, %v; not %+v", text, e, f, want)
	}
}

func wantStmts(t *testing.T, text string, want ...api.Stmt) {
	t.Helper()
	if l, f := parse.Stmts(text); f != fine || !pretty.SameStmts(l, want) {
		t.Errorf("Stmts(%.200q): %+v, %v; not %+v", text, l, f, want)
	}
}

func wantExprFault(t *testing.T, text string, want api.Fault) {
	t.Helper()
	e, f := parse.Expr(text)
	if f != want {
		t.Errorf("Expr(%.200q): %v; not %v", text, f, want)
	}
	wantNothing(t, "Expr", text, e)
}

func wantStmtsFault(t *testing.T, text string, want api.Fault) {
	t.Helper()
	l, f := parse.Stmts(text)
	if f != want {
		t.Errorf("Stmts(%.200q): %v; not %v", text, f, want)
	}
	wantNothing(t, "Stmts", text, l)
}

func syntax(line, col int) api.Fault {
	return api.Fault{Errno: api.ErrSyntax, Line: line, Col: col}
}

func nest(line, col int) api.Fault {
	return api.Fault{Errno: api.ErrNest, Line: line, Col: col}
}

func tooLong() api.Fault {
	return api.Fault{Errno: api.ErrLong}
}

// at takes the mark @ out of a text, and tells what is wrong there.
func at(why api.Errno, marked string) (string, api.Fault) {
	ahead, behind, _ := strings.Cut(marked, "@")
	line, col := strings.Count(ahead, "\n")+1, len(ahead)-strings.LastIndex(ahead, "\n")
	return ahead + behind, api.Fault{Errno: why, Line: line, Col: col}
}

func word(x uint64) api.Expr {
	return api.Expr{Op: api.OpConst, Word: x}
}

func name(s string) api.Expr {
	return api.Expr{Op: api.OpVar, Name: s}
}

func index(s string, at api.Expr) api.Expr {
	return api.Expr{Op: api.OpIndex, Name: s, Args: exprs{at}}
}

func op(o api.Op, args ...api.Expr) api.Expr {
	return api.Expr{Op: o, Args: args}
}

func set(s string, e api.Expr) api.Stmt {
	return api.Stmt{Kind: api.StSet, Name: s, E: e}
}

func put(s string, a, e api.Expr) api.Stmt {
	return api.Stmt{Kind: api.StPut, Name: s, A: a, E: e}
}

func when(e api.Expr, body, other stmts) api.Stmt {
	return api.Stmt{Kind: api.StIf, E: e, Body: body, Else: other}
}

func while(e api.Expr, body ...api.Stmt) api.Stmt {
	return api.Stmt{Kind: api.StWhile, E: e, Body: body}
}

func rounds(s string, low, high uint64, body ...api.Stmt) api.Stmt {
	return api.Stmt{Kind: api.StFor, Name: s, Low: low, High: high, Body: body}
}

func call(names []string, s string, args ...api.Expr) api.Stmt {
	return api.Stmt{Kind: api.StCall, Names: names, Name: s, Args: args}
}

// signTexts are the signs, in the order of the operations from OpAdd on.
func signTexts() []string {
	return strings.Fields("+ - * & | ^ << >> >>> <<< >>>> == != < <=")
}

// someTokens has one token of each kind at least: all own words, all signs, names and numbers.
func someTokens() []string {
	return strings.Fields("array else fn for if pick region secret stack var while ( ) { } [ ] , ; = + - * & | ^ ~ < << <<< <= > >> >>> >>>> == != -> x forx 0 7 2147483647 2147483648 18446744073709551615")
}

// laid are tokens with blanks and notes between them, as chance has it.
func laid(r *rand.Rand, l tokens) string {
	var b strings.Builder
	for i, x := range l {
		if i > 0 && mustPart(l[i-1], x) || r.Intn(3) > 0 {
			b.WriteString(someBlank(r))
		}
		b.WriteString(x.Text)
	}
	if r.Intn(2) > 0 {
		b.WriteString(someBlank(r))
	}
	return b.String()
}

// mustPart tells whether two tokens would be others with nothing between them.
func mustPart(a, b api.Token) bool {
	l, f := lex.All(a.Text + b.Text)
	return f != fine || !lex.Same(l, tokens{a, b})
}

func someBlank(r *rand.Rand) string {
	return []string{" ", "\t", "\n", "\r\n", "  \t ", "# a note; fn x() {}\n", "\n\n#\n", "#$\x00\xff\"\r\n\t"}[r.Intn(8)]
}

// maker makes programs that can be told; the same ones in each run.
type maker struct{ *rand.Rand }

func (m maker) name() string {
	return []string{"x", "y", "fo", "forx", "a_1", "abcdefghijklmnop"}[m.Intn(6)]
}

func (m maker) word() uint64 {
	return m.Uint64() >> uint(m.Intn(65))
}

func (m maker) size() int {
	return int(m.Uint64() >> uint(33+m.Intn(32)))
}

func (m maker) names() []string {
	var l []string
	for range m.Intn(4) {
		l = append(l, m.name())
	}
	return l
}

func (m maker) expr(deep int) api.Expr {
	o := api.Op(1 + m.Intn(21))
	if deep <= 1 {
		o = api.Op(1 + m.Intn(2))
	}
	e := api.Expr{Op: o}
	if o == 1 {
		e.Word = m.word()
	} else if o <= 3 {
		e.Name = m.name()
	}
	for range []int{0, 0, 0, 1, 1, 1, 2, 2, 2, 2, 2, 2, 2, 2, 2, 2, 2, 2, 2, 2, 2, 3}[o] {
		e.Args = append(e.Args, m.expr(deep-1))
	}
	return e
}

func (m maker) stmts(deep int) stmts {
	var l stmts
	for range m.Intn(4) {
		switch kind := api.StmtKind(1 + m.Intn(6)); {
		case kind == api.StSet || deep <= 1:
			l = append(l, set(m.name(), m.expr(deep)))
		case kind == api.StPut:
			l = append(l, put(m.name(), m.expr(deep), m.expr(deep)))
		case kind == api.StIf:
			l = append(l, when(m.expr(deep), m.stmts(deep-1), m.stmts(deep-1)))
		case kind == api.StWhile:
			l = append(l, while(m.expr(deep), m.stmts(deep-1)...))
		case kind == api.StFor:
			l = append(l, rounds(m.name(), m.word(), m.word(), m.stmts(deep-1)...))
		default:
			var args exprs
			for range m.Intn(5) {
				args = append(args, m.expr(deep))
			}
			l = append(l, call(m.names(), m.name(), args...))
		}
	}
	return l
}

func (m maker) program() api.Program {
	var p api.Program
	for range m.Intn(3) {
		p.Regions = append(p.Regions, api.Region{Name: m.name(), Addr: m.size(), Size: m.size(), Secret: m.Intn(2) == 0})
	}
	for range m.Intn(3) {
		f := api.Func{Name: m.name(), Rets: m.names(), Body: m.stmts(1 + m.Intn(4))}
		for range m.Intn(4) {
			f.Params = append(f.Params, api.Var{Name: m.name(), Kind: 1, Secret: m.Intn(2) == 0})
		}
		for range m.Intn(4) {
			v := api.Var{Name: m.name(), Kind: api.VarKind(1 + m.Intn(3))}
			if v.Kind > 1 {
				v.Size, v.Secret = m.size(), m.Intn(2) == 0
			}
			f.Vars = append(f.Vars, v)
		}
		p.Funcs = append(p.Funcs, f)
	}
	return p
}

// textOf is the text of a program, which must have one.
func textOf(t *testing.T, p api.Program) string {
	t.Helper()
	text, errno := pretty.Text(p)
	if errno != api.OK {
		t.Fatal(fmt.Sprint("no text: ", errno))
	}
	return text
}

func tokensOf(t *testing.T, text string) tokens {
	t.Helper()
	l, f := lex.All(text)
	if f != fine {
		t.Fatalf("no tokens: %v of %.200q", f, text)
	}
	return l
}
