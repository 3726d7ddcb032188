package unroll_test

import (
	"fmt"
	"slices"
	"strings"
	"sync"
	"testing"

	"muffle/api"
	"muffle/leak"
	"muffle/scope"
	"muffle/unroll"
)

// P11.1, P11.2: just MaxSize rounds, and one more, and far more, in one loop and in several.
func TestManyRounds(t *testing.T) {
	for _, c := range []struct {
		body string
		want int
	}{
		{"for i 0 65536 { }", api.MaxSize},
		{"for i 1 65536 { }", api.MaxSize - 1},
		{"for i 0 65535 { } for i 0 1 { }", api.MaxSize},
		{"for i 0 65536 { } for i 65536 65536 { }", api.MaxSize},
		{"for i 0 65536 { } for i 65535 65536 { }", api.MaxSize + 1},
		{"for i 0 65535 { } if 1 { for i 0 1 { } } else { for i 0 1 { } }", api.MaxSize + 1},
		{"for i 0 65534 { } if 1 { for i 0 1 { } } else { while 1 { for i 0 1 { } } }", api.MaxSize},
		{"for i 0 65536 { } for i 0 65536 { }", api.MaxSize + 1},
		// 256 and 256 times 255.
		{"for i 0 256 { for j 0 255 { } }", api.MaxSize},
		{"for i 0 256 { for j 0 256 { } }", api.MaxSize + 1},
		{"for i 0 255 { for j 0 255 { } } for i 0 256 { }", api.MaxSize},
		{"for i 0 255 { for j 0 255 { } } for i 0 257 { }", api.MaxSize + 1},
		{"for i 0 1 { for j 0 65535 { } }", api.MaxSize},
		{"for i 0 1 { for j 0 65536 { } }", api.MaxSize + 1},
		{"for i 0 32768 { for j 3 4 { } }", api.MaxSize},
		{"for i 0 32769 { for j 3 4 { } }", api.MaxSize + 1},
		// 16, 16 times 15, 16 times 15 times 272, and what is left.
		{"for i 0 16 { for j 0 15 { for k 0 272 { } } } ", 16 + 240 + 65280},
		{"for i 0 16 { for j 0 15 { for k 0 272 { } } } for i 0 1 { }", api.MaxSize + 1},
		// Of many rounds within one of none, and of none within one of many.
		{"for i 0 0 { for j 0 65536 { for k 0 65536 { } } }", 0},
		{"for i 3 3 { for j 0 65536 { } } for i 0 65536 { }", api.MaxSize},
		{"for i 0 65536 { for j 9 9 { for k 0 65536 { } } }", api.MaxSize},
		{"for i 0 65536 { for j 9 9 { x = 1; } if 1 { } }", api.MaxSize},
		{"for i 0 65535 { for j 9 9 { } } for j 0 2 { }", api.MaxSize + 1},
		// Far more than could ever be counted one by one.
		{"for i 0 65536 { for j 0 65536 { } }", api.MaxSize + 1},
		{"for i 0 65536 { for j 0 65536 { for k 0 65536 { for l 0 65536 { for m 0 65536 { } } } } }", api.MaxSize + 1},
		{"for i 0 2 { for j 0 65536 { for k 0 65536 { for l 0 65536 { for m 0 65536 { } for n 0 65536 { } } for m 0 65536 { } } } }", api.MaxSize + 1},
	} {
		p := counting(list(t, c.body)...)
		wantRounds(t, c.body, p, c.want)
		want := api.OK
		if c.want > api.MaxSize || strings.Contains(c.body, "if 1 { } }") {
			want = api.ErrMany
		}
		wantErrno(t, c.body, p, want)
	}
}

// P11.1: of just MaxSize rounds each has its own terms, in one loop and in loops within loops.
func TestTermsOfMany(t *testing.T) {
	for _, c := range []struct{ body, want string }{
		{"for i 0 65536 { }", "for" + strings.Repeat("{}", api.MaxSize)},
		{"for i 0 256 { for j 0 255 { } }", "for" + strings.Repeat("{for"+strings.Repeat("{}", 255)+"}", 256)},
		{"for i 0 65536 { for j 9 9 { for k 0 65536 { } } }", "for" + strings.Repeat("{for}", api.MaxSize)},
		{"for i 0 0 { for j 0 65536 { x = 1; } }", "for"},
	} {
		wantOf(t, c.body, counting(list(t, c.body)...), counting(), c.want)
	}
}

// P11.1: a result of just MaxSize statements and expressions, and one more.
func TestManyStmts(t *testing.T) {
	for _, c := range []struct {
		body string
		size int
	}{
		{"for i 0 32768 { x = i; }", api.MaxSize},
		{"for i 5 32773 { x = i; }", api.MaxSize},
		{"for i 0 32769 { x = i; }", api.MaxSize + 2},
		{"for i 0 32767 { x = i; } x = 1;", api.MaxSize},
		{"for i 0 32767 { x = i; } x = ~i;", api.MaxSize + 1},
		{"x = ~i; for i 0 32767 { x = i; }", api.MaxSize + 1},
		{"for i 0 32767 { x = i; } r[i] = 1;", api.MaxSize + 1},
		{"for i 0 32766 { x = i; } s[1] = ~x;", api.MaxSize},
		{"for i 0 32766 { x = i; } s[~1] = ~x;", api.MaxSize + 1},
		{"for i 0 16384 { x = s[~i]; }", api.MaxSize},
		{"for i 0 16384 { s[~i] = i; }", api.MaxSize},
		{"for i 0 16384 { s[i] = ~i; }", api.MaxSize},
		{"for i 0 16385 { s[i] = ~i; }", api.MaxSize + 4},
		{"for i 0 16384 { x = (i + y); }", api.MaxSize},
		{"for i 0 16384 { if i { } else { } while x { } }", api.MaxSize},
		{"for i 0 16384 { if i { x = 1; } else { } }", api.MaxSize},
		{"for i 0 16384 { if i { } else { x = 1; } }", api.MaxSize},
		{"for i 0 16384 { while i { x = 1; } }", api.MaxSize},
		{"for i 0 16385 { while i { x = 1; } }", api.MaxSize + 4},
		{"for i 0 256 { for j 0 127 { x = (i + j); } }", 256 * 127 * 4},
		{"for i 0 128 { for j 0 128 { x = (i + j); } }", api.MaxSize},
		{"for i 0 128 { for j 0 128 { x = (i + j); } } x = 1;", api.MaxSize + 2},
		{"for i 0 129 { for j 0 128 { x = (i + j); } }", 129 * 128 * 4},
		{"while 1 { for i 0 32767 { x = i; } }", api.MaxSize},
		{"while ~1 { for i 0 32767 { x = i; } }", api.MaxSize + 1},
		{"if 1 { for i 0 16383 { x = i; } } else { for i 0 16384 { x = i; } }", api.MaxSize},
		{"if 1 { for i 0 16384 { x = i; } } else { for i 0 16384 { x = i; } }", api.MaxSize + 2},
		// What no round does is not in it.
		{"for i 0 32768 { x = i; } for i 0 0 { for j 0 65536 { x = 1; x = 2; } }", api.MaxSize},
		{"for i 0 32768 { for j 1 1 { y = 1; y = 2; } x = i; }", api.MaxSize},
		{"for i 0 40000 { x = 1; x = 2; }", 160000},
	} {
		p := counting(list(t, c.body)...)
		q, terms, errno := laid(t, c.body, p)
		if c.size > api.MaxSize {
			if errno != api.ErrMany {
				t.Error(c.body, errno)
			}
			continue
		}
		if errno != api.OK || scope.Size(q) != c.size || len(terms) != len(p.Funcs[0].Body) || !leak.Terms(terms) {
			t.Error(c.body, errno, scope.Size(q), len(terms))
		}
	}
}

// P11.1: each way in which one more expression, or statement, may be there counts.
func TestOneMore(t *testing.T) {
	for _, c := range []struct {
		body string
		size int
	}{
		{"x = i;", 2}, {"x = ~i;", 3}, {"x = (i + 1);", 4}, {"x = pick(i, j, 1);", 5}, {"x = pick(~i, (j + 1), r[i]);", 9},
		{"r[i] = 1;", 3}, {"r[~i] = 1;", 4}, {"r[i] = ~1;", 4}, {"r[(i + i)] = s[s[i]];", 7},
		{"if i { }", 2}, {"if ~i { }", 3}, {"if ~i { x = 1; }", 5}, {"if ~i { } else { x = ~i; }", 6}, {"while ~i { x = i; }", 5},
	} {
		for more := -1; more < 2; more++ {
			// The rest is filled up with two at a time, and with three once, if it is odd.
			n, want := api.MaxSize-c.size+more, api.OK
			l := slices.Repeat(stmts{set("x", op(api.OpNot, word(1)))}, n%2)
			l = append(l, rounds("i", 0, 1, list(t, c.body)...), rounds("j", 0, uint64((n-3*(n%2))/2), set("x", name("j"))))
			if more > 0 {
				want = api.ErrMany
			}
			q, _, errno := laid(t, fmt.Sprint(c.body, " and ", more), counting(l...))
			if errno != want || errno == api.OK && scope.Size(q) != api.MaxSize+more {
				t.Error(c.body, more, errno, scope.Size(q))
			}
		}
	}
}

// P11.1: what is as deep as may be is less deep when it is laid out: so nothing is too deep.
func TestDeep(t *testing.T) {
	for loops := range 9 {
		l, want := stmts{set("x", word(1))}, stmts{set("x", word(1))}
		names := strings.Split("i j k l m n y z", " ")
		for deep := range api.MaxNest - 1 {
			switch {
			case deep%7 == 3 && deep/7 < loops && deep/7 < len(names):
				l = stmts{rounds(names[deep/7], 4, 5, l...)}
			case deep%2 == 0:
				l, want = stmts{when(word(1), l...)}, stmts{when(word(1), want...)}
			case deep%5 == 0:
				l, want = stmts{while(word(1), l...)}, stmts{while(word(1), want...)}
			default:
				l, want = stmts{{Kind: api.StIf, E: word(1), Else: l}}, stmts{{Kind: api.StIf, E: word(1), Else: want}}
			}
		}
		what := fmt.Sprint("with ", loops, " loops")
		q, terms, errno := laid(t, what, counting(l...))
		if errno != api.OK || !scope.Same(q, counting(want...)) || !leak.Terms(terms) {
			t.Error(what, errno)
		}
		// One deeper is refused, though what comes of it would not be: the program is asked first.
		deeper := stmts{when(word(1), l...)}
		if errno := scope.May(counting(deeper...)); errno != api.ErrNest {
			t.Fatal(errno)
		}
		wantErrno(t, what+", one deeper", counting(deeper...), api.ErrNest)
	}
	e := name("i")
	for range api.MaxNest - 2 {
		e = op(api.OpNeg, e)
	}
	q, _, errno := laid(t, "an expression", counting(rounds("i", 6, 7, set("x", e))))
	if errno != api.OK || tellExpr(q.Funcs[0].Body[0].E) != strings.Repeat("-", api.MaxNest-2)+"6" {
		t.Error(errno, q)
	}
	wantErrno(t, "an expression, one deeper", counting(rounds("i", 6, 7, set("x", op(api.OpNeg, e)))), api.ErrNest)
}

func tellExpr(e api.Expr) string {
	if e.Op == api.OpNeg {
		return "-" + tellExpr(e.Args[0])
	}
	return fmt.Sprint(e.Word)
}

// P11.1: all that there may be of what stays as it was: regions, parameters and variables.
func TestManyVars(t *testing.T) {
	p := api.Program{Funcs: []api.Func{{Name: "f"}}}
	f := &p.Funcs[0]
	for i := range api.MaxRegions {
		p.Regions = append(p.Regions, api.Region{Name: fmt.Sprint("k", i), Addr: 64 * i, Size: 8})
	}
	for i := range 20 {
		f.Params = append(f.Params, reg(fmt.Sprint("p", i)))
		f.Rets = append(f.Rets, fmt.Sprint("p", i))
	}
	for i := range api.MaxVars - 20 {
		f.Vars = append(f.Vars, reg(fmt.Sprint("v", i)))
	}
	want := scope.Clone(p)
	l, of := stmts{set("p0", name("v0"))}, []string{"="}
	for i := range api.MaxVars - 20 {
		l = stmts{rounds(fmt.Sprint("v", i), uint64(i), uint64(i+1), l...)}
		of = append(of, "for{"+of[i]+"}")
	}
	f.Body, want.Funcs[0].Body = l, stmts{set("p0", word(0))}
	wantOf(t, "all words count", p, want, of[api.MaxVars-20])
	wantRounds(t, "all words count", p, api.MaxVars-20)
}

// P11.1, P0.3: a result that is far too large is refused without being made.
func TestFarTooLarge(t *testing.T) {
	e := name("i")
	for range 14 {
		e = op(api.OpAdd, e, e)
	}
	wantErrno(t, "a large expression", counting(rounds("i", 0, api.MaxSize, set("x", e))), api.ErrMany)
	wantErrno(t, "a large expression, once", counting(rounds("i", 0, 1, set("x", e))), api.OK)
	wantErrno(t, "a large expression, in no round", counting(rounds("j", 0, api.MaxSize, rounds("i", 9, 9, set("x", e)))), api.OK)
	long := slices.Repeat(stmts{set("x", name("i"))}, 32000)
	wantErrno(t, "many statements", counting(rounds("i", 0, api.MaxSize, long...)), api.ErrMany)
	wantErrno(t, "many statements, behind branches", counting(rounds("i", 0, api.MaxSize/2, when(name("i"), long...))), api.ErrMany)
	wantErrno(t, "many statements, in no round", counting(rounds("j", 0, api.MaxSize, rounds("i", 9, 9, long...))), api.OK)
}

// P11.1: loops of no round have terms in each round, though nothing of them is in the result: more terms than layer 2 takes are told nevertheless.
func TestLoopsOfNone(t *testing.T) {
	none := func(n int) api.Program {
		return counting(rounds("i", 0, api.MaxSize, slices.Repeat(stmts{rounds("j", 3, 3, set("x", name("i")))}, n)...))
	}
	p := none(16)
	q, terms, errno := unroll.Program(p)
	if errno != api.OK || !scope.Same(q, counting()) || len(terms) != 1 || len(terms[0].Subs) != api.MaxSize || leak.Terms(terms) {
		t.Fatal(errno, q, len(terms))
	}
	for _, sub := range terms[0].Subs {
		if len(sub) != 16 || tellTerms(sub[15:]) != "for" {
			t.Fatal(tellTerms(sub))
		}
	}
	// Of so many that nothing is promised any more an error is told.
	for _, n := range []int{512, 513, 1000, 20000} {
		p = none(n)
		wantRounds(t, fmt.Sprint(n, " loops of no round"), p, api.MaxSize)
		wantErrno(t, fmt.Sprint(n, " loops of no round"), p, api.ErrMany)
	}
	// Within a loop of no round none of it counts.
	p.Funcs[0].Body = append(stmts{rounds("k", 1, 1, p.Funcs[0].Body...)}, set("x", word(1)))
	wantOf(t, "in no round", p, counting(set("x", word(1))), "for =")
}

// P11.1, P11.2: calls at one time do not meet.
func TestAtOneTime(t *testing.T) {
	p := program(t, "region k 0 9; fn f(x) -> x { var i; var j; for i 0 4 { for j 1 3 { k[(i + j)] = (x * i); } while (x < i) { x = (x + 1); } } }")
	want, terms, errno := laid(t, "alone", p)
	if errno != api.OK {
		t.Fatal(errno)
	}
	told := tellTerms(terms)
	body := p.Funcs[0].Body
	put := unroll.Put("x", 3, body...)
	var all sync.WaitGroup
	for range 8 {
		all.Go(func() {
			for range 50 {
				if q, terms, errno := unroll.Program(p); errno != api.OK || !scope.Same(q, want) || tellTerms(terms) != told {
					t.Error(errno, tellTerms(terms))
				}
				if n, errno := unroll.Rounds(p); errno != api.OK || n != 12 {
					t.Error(errno, n)
				}
				if l := unroll.Put("x", 3, body...); !scope.Same(counting(l...), counting(put...)) {
					t.Error(l)
				}
			}
		})
	}
	all.Wait()
}

// P11.1: what lies behind the ends of the lists that are handed in stays, too.
func TestBehindTheEnds(t *testing.T) {
	p := program(t, "region k 0 2; fn f(x) -> x { var z; var i; for i 0 2 { z = (i + k[i]); z = 1; } }")
	mark := api.Var{Name: "mark", Kind: api.VarArray, Size: 7}
	f := &p.Funcs[0]
	vars := append(slices.Clone(f.Vars), mark, mark, mark)
	f.Vars = vars[:2]
	body := append(slices.Clone(f.Body), set("mark", word(1)), set("mark", word(2)))
	f.Body = body[:1]
	inner := append(slices.Clone(body[0].Body), set("mark", word(3)))
	f.Body[0].Body = inner[:2]
	args := append(slices.Clone(inner[0].E.Args), word(4), word(5))
	inner[0].E.Args = args[:2]
	if _, _, errno := unroll.Program(p); errno != api.OK {
		t.Fatal(errno)
	}
	if !slices.Equal(vars[2:], []api.Var{mark, mark, mark}) || body[1].Name != "mark" || body[2].E.Word != 2 || inner[2].E.Word != 3 || args[2].Word != 4 || args[0].Name != "i" {
		t.Error(vars, body, inner, args)
	}
}

// P0.8: what nests as deep as there may be anything.
func TestDeepest(t *testing.T) {
	const deep = 1 << 16
	e := name("x")
	s, loops := set("x", word(1)), set("x", word(1))
	for range deep {
		e, s = op(api.OpNot, e), when(word(1), s)
		loops = rounds("i", 0, 2, loops)
	}
	wantNothing(t, "the deepest expression", counting(set("x", e)), api.ErrNest)
	wantNothing(t, "the deepest expression, in a round", counting(rounds("i", 0, 9, set("x", e))), api.ErrNest)
	wantNothing(t, "the deepest statement", counting(s), api.ErrNest)
	wantNothing(t, "the deepest statement, in no round", counting(rounds("i", 9, 9, s)), api.ErrNest)
	wantNothing(t, "the deepest loop", counting(loops), api.ErrArg)
}
