package word_test

import (
	"math/big"
	"testing"

	"muffle/api"
	"muffle/word"
)

// P1.2: Low, Signed, Not of each width, against numbers.
func TestLowSignedNot(t *testing.T) {
	for _, w := range widths {
		for _, a := range edges() {
			x := plain(w, a)
			if got, e := word.Low(w, a); got != x.Uint64() || e != api.OK {
				t.Errorf("Low(%d, %#x): %#x, %v", w, a, got, e)
			}
			if got, e := word.Signed(w, a); got != cut(64, withSign(w, a)) || e != api.OK {
				t.Errorf("Signed(%d, %#x): %#x, %v", w, a, got, e)
			}
			want := new(big.Int).Sub(new(big.Int).Sub(two(int(w)), big.NewInt(1)), x)
			if got, e := word.Not(w, a); got != want.Uint64() || e != api.OK {
				t.Errorf("Not(%d, %#x): %#x, %v", w, a, got, e)
			}
		}
	}
}

// P1.2: some, told by hand.
func TestLowSignedNotByHand(t *testing.T) {
	const all = ^uint64(0)
	for _, c := range []struct {
		w              api.Width
		a              uint64
		low, sign, not uint64
	}{
		{8, 0x180, 0x80, all - 127, 0x7f}, {8, 0x17f, 0x7f, 0x7f, 0x80}, {8, all, 0xff, all, 0},
		{16, 0x18000, 0x8000, all - 32767, 0x7fff}, {16, 0xff, 0xff, 0xff, 0xff00},
		{32, 0x180000000, 0x80000000, 0xffffffff80000000, 0x7fffffff}, {32, 1 << 32, 0, 0, 0xffffffff},
		{64, 1 << 63, 1 << 63, 1 << 63, 1<<63 - 1}, {64, all, all, all, 0}, {64, 5, 5, 5, all - 5},
	} {
		low, e := word.Low(c.w, c.a)
		sign, g := word.Signed(c.w, c.a)
		not, h := word.Not(c.w, c.a)
		if low != c.low || sign != c.sign || not != c.not || e != api.OK || g != api.OK || h != api.OK {
			t.Errorf("%d, %#x: %#x, %#x, %#x, %v, %v, %v", c.w, c.a, low, sign, not, e, g, h)
		}
	}
}

// P1.2: Neg is Sub of 0, and a.
func TestNeg(t *testing.T) {
	for _, w := range widths {
		for _, a := range edges() {
			want, f := wantDo(api.BinSub, w, 0, a, api.Flags{})
			if x, g, e := word.Neg(w, a); x != want || g != f || e != api.OK {
				t.Errorf("Neg(%d, %#x): %#x, %+v, %v; not %#x, %+v", w, a, x, g, e, want, f)
			}
		}
	}
	for _, c := range []struct {
		w    api.Width
		a, x uint64
		f    api.Flags
	}{
		{8, 0, 0, api.Flags{Z: true, P: true}}, {8, 256, 0, api.Flags{Z: true, P: true}}, {8, 1, 255, api.Flags{C: true, S: true, P: true}},
		{8, 128, 128, api.Flags{C: true, S: true, O: true}}, {64, 1 << 63, 1 << 63, api.Flags{C: true, S: true, O: true, P: true}},
		{32, 1<<32 - 2, 2, api.Flags{C: true}},
	} {
		if x, g, e := word.Neg(c.w, c.a); x != c.x || g != c.f || e != api.OK {
			t.Errorf("Neg(%d, %#x): %#x, %+v, %v", c.w, c.a, x, g, e)
		}
	}
}

// P1.2: Wide is the whole product.
func TestWide(t *testing.T) {
	for _, a := range edges() {
		for _, b := range edges() {
			high, low := word.Wide(a, b)
			got := new(big.Int).SetUint64(high)
			got.Add(got.Lsh(got, 64), new(big.Int).SetUint64(low))
			want := new(big.Int).Mul(new(big.Int).SetUint64(a), new(big.Int).SetUint64(b))
			if got.Cmp(want) != 0 {
				t.Fatalf("Wide(%d, %d): %d, %d", a, b, high, low)
			}
		}
	}
	if high, low := word.Wide(^uint64(0), ^uint64(0)); high != ^uint64(1) || low != 1 {
		t.Error(high, low)
	}
}

// P1.2, P1.3: wrong widths.
func TestNoWidth(t *testing.T) {
	f := api.Flags{C: true, Z: true, S: true, O: true, P: true}
	for _, w := range noWidths {
		if x, e := word.Low(w, 5); x != 0 || e != api.ErrArg {
			t.Errorf("Low(%d): %d, %v", w, x, e)
		}
		if x, e := word.Signed(w, 5); x != 0 || e != api.ErrArg {
			t.Errorf("Signed(%d): %d, %v", w, x, e)
		}
		if x, e := word.Not(w, 5); x != 0 || e != api.ErrArg {
			t.Errorf("Not(%d): %d, %v", w, x, e)
		}
		if x, g, e := word.Neg(w, 5); x != 0 || g != (api.Flags{}) || e != api.ErrArg {
			t.Errorf("Neg(%d): %d, %+v, %v", w, x, g, e)
		}
		for op := api.BinAdd; op <= api.BinMul; op++ {
			if x, g, e := word.Do(op, w, 5, 6, f); x != 0 || g != (api.Flags{}) || e != api.ErrArg {
				t.Errorf("Do(%d, %d): %d, %+v, %v", op, w, x, g, e)
			}
		}
		for op := api.ShiftShl; op <= api.ShiftRor; op++ {
			for _, n := range []uint64{0, 1, 64} {
				if x, g, e := word.Shift(op, w, 5, n, f); x != 0 || g != (api.Flags{}) || e != api.ErrArg {
					t.Errorf("Shift(%d, %d, %d): %d, %+v, %v", op, w, n, x, g, e)
				}
			}
		}
	}
}
