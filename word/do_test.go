package word_test

import (
	"math/big"
	"testing"

	"muffle/api"
	"muffle/word"
)

func checkDo(t *testing.T, op api.BinOp, w api.Width, a, b uint64, f api.Flags) {
	t.Helper()
	want, g := wantDo(op, w, a, b, f)
	if x, h, e := word.Do(op, w, a, b, f); x != want || h != g || e != api.OK {
		t.Fatalf("Do(%d, %d, %#x, %#x, %+v): %#x, %+v, %v; not %#x, %+v", op, w, a, b, f, x, h, e, want, g)
	}
}

// P1.3: Do, all there is at the width 8, with the carry ahead and without.
func TestDoWhole(t *testing.T) {
	for op := api.BinAdd; op <= api.BinMul; op++ {
		for a := range uint64(256) {
			for b := range uint64(256) {
				checkDo(t, op, 8, a, b, api.Flags{})
				if op == api.BinAdc || op == api.BinSbb {
					checkDo(t, op, 8, a, b, api.Flags{C: true})
				}
			}
		}
	}
}

// P1.3: Do at the edges of each width; bits above it do not count.
func TestDoEdges(t *testing.T) {
	for op := api.BinAdd; op <= api.BinMul; op++ {
		for _, w := range widths {
			for _, a := range edges() {
				for _, b := range edges() {
					checkDo(t, op, w, a, b, api.Flags{C: true})
					checkDo(t, op, w, a, b, api.Flags{Z: true, S: true, O: true, P: true})
				}
			}
		}
	}
}

// P1.3: of the flags ahead the carry alone counts, and it does for Adc and Sbb alone.
func TestDoFlagsAhead(t *testing.T) {
	for op := api.BinAdd; op <= api.BinMul; op++ {
		for _, w := range widths {
			for _, f := range allFlags() {
				for _, a := range []uint64{0, 1, 5, 0x7f, 0x80, 1<<(w-1) - 1, 1 << (w - 1), ^uint64(0)} {
					checkDo(t, op, w, a, a, f)
					checkDo(t, op, w, a, 1, f)
					checkDo(t, op, w, 0, a, f)
				}
			}
		}
	}
}

// P1.3: Do, told by hand.
func TestDoByHand(t *testing.T) {
	const all, top = ^uint64(0), uint64(1) << 63
	for _, c := range []struct {
		op   api.BinOp
		w    api.Width
		a, b uint64
		f    api.Flags
		x    uint64
		g    api.Flags
	}{
		{api.BinAdd, 8, 255, 1, api.Flags{}, 0, api.Flags{C: true, Z: true, P: true}},
		{api.BinAdd, 8, 127, 1, api.Flags{}, 128, api.Flags{S: true, O: true}},
		{api.BinAdd, 8, 0x1ff, 0x201, api.Flags{}, 0, api.Flags{C: true, Z: true, P: true}},
		{api.BinAdd, 16, 0xffff, 0, api.Flags{C: true}, 0xffff, api.Flags{S: true, P: true}},
		{api.BinAdd, 64, top, top, api.Flags{}, 0, api.Flags{C: true, Z: true, O: true, P: true}},
		{api.BinAdc, 64, all, 0, api.Flags{C: true}, 0, api.Flags{C: true, Z: true, P: true}},
		{api.BinAdc, 64, all, all, api.Flags{C: true}, all, api.Flags{C: true, S: true, P: true}},
		{api.BinAdc, 32, 1<<31 - 1, 0, api.Flags{C: true}, 1 << 31, api.Flags{S: true, O: true, P: true}},
		{api.BinSub, 8, 0, 1, api.Flags{}, 255, api.Flags{C: true, S: true, P: true}},
		{api.BinSub, 8, 128, 1, api.Flags{}, 127, api.Flags{O: true}},
		{api.BinSub, 8, 5, 5, api.Flags{C: true}, 0, api.Flags{Z: true, P: true}},
		{api.BinSbb, 64, 0, all, api.Flags{C: true}, 0, api.Flags{C: true, Z: true, P: true}},
		{api.BinSbb, 8, 128, 0, api.Flags{C: true}, 127, api.Flags{O: true}},
		{api.BinSbb, 8, 0, 127, api.Flags{C: true}, 128, api.Flags{C: true, S: true}},
		{api.BinAnd, 32, 1<<40 + 6, 1<<40 + 3, api.Flags{C: true, O: true, Z: true}, 2, api.Flags{}},
		{api.BinOr, 16, 0x8000, 0x10001, api.Flags{C: true, O: true}, 0x8001, api.Flags{S: true}},
		{api.BinXor, 64, top + 7, 7, api.Flags{C: true, O: true}, top, api.Flags{S: true, P: true}},
		{api.BinMul, 8, 11, 11, api.Flags{}, 121, api.Flags{}},
		{api.BinMul, 8, 12, 11, api.Flags{}, 132, api.Flags{C: true, S: true, O: true, P: true}},
		{api.BinMul, 8, 255, 255, api.Flags{C: true}, 1, api.Flags{}},
		{api.BinMul, 8, 128, 255, api.Flags{}, 128, api.Flags{C: true, S: true, O: true}},
		{api.BinMul, 64, top, all, api.Flags{}, top, api.Flags{C: true, S: true, O: true, P: true}},
		{api.BinMul, 64, all, all, api.Flags{}, 1, api.Flags{}},
		{api.BinMul, 64, 1 << 32, 1 << 32, api.Flags{}, 0, api.Flags{C: true, Z: true, O: true, P: true}},
		{api.BinMul, 32, 1 << 16, 1 << 15, api.Flags{}, 1 << 31, api.Flags{C: true, S: true, O: true, P: true}},
	} {
		if x, g, e := word.Do(c.op, c.w, c.a, c.b, c.f); x != c.x || g != c.g || e != api.OK {
			t.Errorf("Do(%d, %d, %#x, %#x): %#x, %+v, %v", c.op, c.w, c.a, c.b, x, g, e)
		}
	}
}

// P1.3: operations that are none.
func TestDoRefused(t *testing.T) {
	for _, op := range []api.BinOp{0, 9, 10, -1, 1 << 40} {
		for _, w := range append([]api.Width{9}, widths...) {
			if x, g, e := word.Do(op, w, 1, 1, api.Flags{C: true, P: true}); x != 0 || g != (api.Flags{}) || e != api.ErrArg {
				t.Errorf("Do(%d, %d): %d, %+v, %v", op, w, x, g, e)
			}
		}
	}
}

// P1.4: the flags of Sub tell the same, below without signs, below with signs.
func TestSubTellsOrder(t *testing.T) {
	for _, w := range widths {
		for _, a := range edges() {
			for _, b := range edges() {
				_, f, _ := word.Do(api.BinSub, w, a, b, api.Flags{})
				same, _ := word.Holds(api.CondE, f)
				below, _ := word.Holds(api.CondB, f)
				less, _ := word.Holds(api.CondL, f)
				x, y := plain(w, a), plain(w, b)
				if same != (x.Cmp(y) == 0) || below != (x.Cmp(y) < 0) || less != (withSign(w, a).Cmp(withSign(w, b)) < 0) {
					t.Fatalf("%d: %#x, %#x: %v, %v, %v", w, a, b, same, below, less)
				}
			}
		}
	}
}

// P1.4: Add of the lower words, Adc of the higher ones: the sum of 128 bits; likewise Sub and Sbb.
func TestLongSums(t *testing.T) {
	value := func(high, low uint64) *big.Int {
		x := new(big.Int).SetUint64(high)
		return x.Add(x.Lsh(x, 64), new(big.Int).SetUint64(low))
	}
	l := []uint64{0, 1, 1 << 63, 1<<63 - 1, ^uint64(0), ^uint64(1), 0x0123456789abcdef}
	for i := range len(l) * len(l) * len(l) * len(l) {
		n := len(l)
		a, b, c, d := l[i%n], l[i/n%n], l[i/n/n%n], l[i/n/n/n]
		low, f, _ := word.Do(api.BinAdd, 64, b, d, api.Flags{C: true})
		high, f, _ := word.Do(api.BinAdc, 64, a, c, f)
		sum := new(big.Int).Add(value(a, b), value(c, d))
		if value(high, low).Cmp(new(big.Int).Mod(sum, two(128))) != 0 || f.C != (sum.Cmp(two(128)) >= 0) {
			t.Fatalf("%#x %#x + %#x %#x: %#x %#x", a, b, c, d, high, low)
		}
		low, f, _ = word.Do(api.BinSub, 64, b, d, api.Flags{C: true})
		high, f, _ = word.Do(api.BinSbb, 64, a, c, f)
		rest := new(big.Int).Sub(value(a, b), value(c, d))
		if value(high, low).Cmp(new(big.Int).Mod(rest, two(128))) != 0 || f.C != (rest.Sign() < 0) {
			t.Fatalf("%#x %#x - %#x %#x: %#x %#x", a, b, c, d, high, low)
		}
	}
}
