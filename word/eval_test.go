package word_test

import (
	"slices"
	"testing"

	"muffle/api"
	"muffle/word"
)

// P1.1: Args.
func TestArgs(t *testing.T) {
	want := map[api.Op]int{api.OpNot: 1, api.OpNeg: 1, api.OpAdd: 2, api.OpSub: 2, api.OpMul: 2, api.OpAnd: 2, api.OpOr: 2, api.OpXor: 2, api.OpShl: 2, api.OpShr: 2, api.OpSar: 2, api.OpRol: 2, api.OpRor: 2, api.OpEq: 2, api.OpNe: 2, api.OpLt: 2, api.OpLe: 2, api.OpPick: 3}
	for op := api.Op(-30); op < 60; op++ {
		n, ok := want[op]
		if !ok {
			n = -1
		}
		if got := word.Args(op); got != n {
			t.Errorf("Args(%d): %d, not %d", op, got, n)
		}
	}
	for _, op := range []api.Op{1 << 40, -1 << 40} {
		if got := word.Args(op); got != -1 {
			t.Errorf("Args(%d): %d, not -1", op, got)
		}
	}
}

// P1.1: Eval, of ordinary words and of edges.
func TestEval(t *testing.T) {
	const all, top = ^uint64(0), uint64(1) << 63
	for _, c := range []struct {
		op   api.Op
		args []uint64
		want uint64
	}{
		{api.OpNot, []uint64{0}, all}, {api.OpNot, []uint64{all}, 0}, {api.OpNot, []uint64{0xf0}, all - 0xf0},
		{api.OpNeg, []uint64{0}, 0}, {api.OpNeg, []uint64{1}, all}, {api.OpNeg, []uint64{top}, top},
		{api.OpAdd, []uint64{3, 4}, 7}, {api.OpAdd, []uint64{all, 2}, 1}, {api.OpAdd, []uint64{top, top}, 0},
		{api.OpSub, []uint64{7, 4}, 3}, {api.OpSub, []uint64{4, 7}, all - 2}, {api.OpSub, []uint64{0, 1}, all},
		{api.OpMul, []uint64{6, 7}, 42}, {api.OpMul, []uint64{all, all}, 1}, {api.OpMul, []uint64{1 << 32, 1 << 32}, 0}, {api.OpMul, []uint64{top + 3, 5}, top + 15},
		{api.OpAnd, []uint64{12, 10}, 8}, {api.OpOr, []uint64{12, 10}, 14}, {api.OpXor, []uint64{12, 10}, 6},
		{api.OpShl, []uint64{5, 1}, 10}, {api.OpShl, []uint64{5, 63}, top}, {api.OpShl, []uint64{5, 0}, 5}, {api.OpShl, []uint64{5, 64}, 5}, {api.OpShl, []uint64{5, 66}, 20}, {api.OpShl, []uint64{1, all}, top},
		{api.OpShr, []uint64{top, 63}, 1}, {api.OpShr, []uint64{top + 6, 1}, top/2 + 3}, {api.OpShr, []uint64{top, 0}, top}, {api.OpShr, []uint64{top, 64}, top}, {api.OpShr, []uint64{top, 65}, top / 2}, {api.OpShr, []uint64{all, all}, 1},
		{api.OpSar, []uint64{top, 63}, all}, {api.OpSar, []uint64{top, 1}, top + top/2}, {api.OpSar, []uint64{top - 1, 62}, 1}, {api.OpSar, []uint64{top, 64}, top}, {api.OpSar, []uint64{top, 1<<63 + 2}, 7 << 61},
		{api.OpRol, []uint64{top + 1, 1}, 3}, {api.OpRol, []uint64{1, 65}, 2}, {api.OpRol, []uint64{9, 0}, 9}, {api.OpRol, []uint64{9, 64}, 9}, {api.OpRol, []uint64{1, all}, top},
		{api.OpRor, []uint64{3, 1}, top + 1}, {api.OpRor, []uint64{2, 65}, 1}, {api.OpRor, []uint64{9, 0}, 9}, {api.OpRor, []uint64{9, 64}, 9}, {api.OpRor, []uint64{1, all}, 2},
		{api.OpEq, []uint64{4, 4}, 1}, {api.OpEq, []uint64{4, 5}, 0}, {api.OpEq, []uint64{0, top}, 0},
		{api.OpNe, []uint64{4, 4}, 0}, {api.OpNe, []uint64{4, 5}, 1}, {api.OpNe, []uint64{0, top}, 1},
		{api.OpLt, []uint64{4, 5}, 1}, {api.OpLt, []uint64{5, 5}, 0}, {api.OpLt, []uint64{6, 5}, 0}, {api.OpLt, []uint64{1, all}, 1}, {api.OpLt, []uint64{top, 1}, 0},
		{api.OpLe, []uint64{4, 5}, 1}, {api.OpLe, []uint64{5, 5}, 1}, {api.OpLe, []uint64{6, 5}, 0}, {api.OpLe, []uint64{1, all}, 1}, {api.OpLe, []uint64{top, 1}, 0},
		{api.OpPick, []uint64{0, 5, 6}, 6}, {api.OpPick, []uint64{1, 5, 6}, 5}, {api.OpPick, []uint64{top, 5, 6}, 5}, {api.OpPick, []uint64{all, 5, 6}, 5},
	} {
		ahead := slices.Clone(c.args)
		if x, e := word.Eval(c.op, c.args...); x != c.want || e != api.OK {
			t.Errorf("Eval(%d, %d): %d, %v; not %d", c.op, c.args, x, e, c.want)
		}
		if !slices.Equal(ahead, c.args) {
			t.Errorf("Eval(%d, %d): changed what it was handed", c.op, ahead)
		}
	}
}

// P1.1: how far is shifted or rotated counts modulo 64.
func TestEvalCounts(t *testing.T) {
	for op := api.OpShl; op <= api.OpRor; op++ {
		for n := range uint64(64) {
			want, _ := word.Eval(op, 0x8123456789abcde1, n)
			for _, more := range []uint64{64, 128, 1 << 32, 1 << 63, ^uint64(63)} {
				if x, e := word.Eval(op, 0x8123456789abcde1, n+more); x != want || e != api.OK {
					t.Fatalf("Eval(%d) by %d and %d: %d, %v; not %d", op, n, more, x, e, want)
				}
			}
		}
	}
}

// P1.1: Eval comes to what the machine's operations come to.
func TestEvalAsMachine(t *testing.T) {
	bins := map[api.Op]api.BinOp{api.OpAdd: api.BinAdd, api.OpSub: api.BinSub, api.OpMul: api.BinMul, api.OpAnd: api.BinAnd, api.OpOr: api.BinOr, api.OpXor: api.BinXor}
	shifts := map[api.Op]api.ShiftOp{api.OpShl: api.ShiftShl, api.OpShr: api.ShiftShr, api.OpSar: api.ShiftSar, api.OpRol: api.ShiftRol, api.OpRor: api.ShiftRor}
	for _, a := range edges() {
		for _, b := range edges() {
			for op, bin := range bins {
				want, _ := wantDo(bin, 64, a, b, api.Flags{})
				if x, e := word.Eval(op, a, b); x != want || e != api.OK {
					t.Fatalf("Eval(%d, %d, %d): %d, %v; not %d", op, a, b, x, e, want)
				}
			}
			for op, shift := range shifts {
				want, _ := wantShift(shift, 64, a, b, api.Flags{})
				if x, e := word.Eval(op, a, b); x != want || e != api.OK {
					t.Fatalf("Eval(%d, %d, %d): %d, %v; not %d", op, a, b, x, e, want)
				}
			}
		}
	}
}

// P1.1: wrong inputs: operations that take no words, too few, too many.
func TestEvalRefused(t *testing.T) {
	words := []uint64{9, 8, 7, 6, 5}
	for op := api.Op(-30); op < 60; op++ {
		for n := range len(words) + 1 {
			if n == word.Args(op) {
				continue
			}
			if x, e := word.Eval(op, words[:n]...); x != 0 || e != api.ErrArg {
				t.Errorf("Eval(%d) of %d words: %d, %v", op, n, x, e)
			}
		}
	}
	if x, e := word.Eval(api.OpAdd, nil...); x != 0 || e != api.ErrArg {
		t.Errorf("Eval(OpAdd) of nil: %d, %v", x, e)
	}
	if x, e := word.Eval(api.OpNot, make([]uint64, 100000)...); x != 0 || e != api.ErrArg {
		t.Errorf("Eval(OpNot) of very many: %d, %v", x, e)
	}
}

// P1.4: round by n, and by 64 less n behind it, is the word.
func TestRoundAndBack(t *testing.T) {
	for _, op := range []api.Op{api.OpRol, api.OpRor} {
		for _, a := range edges() {
			for n := range uint64(65) {
				x, _ := word.Eval(op, a, n)
				if y, e := word.Eval(op, x, 64-n); y != a || e != api.OK {
					t.Fatalf("%d round by %d and back: %d, %v", a, n, y, e)
				}
			}
		}
	}
}
