package word_test

import (
	"testing"

	"muffle/api"
	"muffle/word"
)

func checkShift(t *testing.T, op api.ShiftOp, w api.Width, a, n uint64, f api.Flags) {
	t.Helper()
	want, g := wantShift(op, w, a, n, f)
	if x, h, e := word.Shift(op, w, a, n, f); x != want || h != g || e != api.OK {
		t.Fatalf("Shift(%d, %d, %#x, %d, %+v): %#x, %+v, %v; not %#x, %+v", op, w, a, n, f, x, h, e, want, g)
	}
}

// P1.3: Shift, all words of 8 bits by all counts that count.
func TestShiftWhole(t *testing.T) {
	for op := api.ShiftShl; op <= api.ShiftRor; op++ {
		for a := range uint64(256) {
			for n := range uint64(33) {
				checkShift(t, op, 8, a, n, api.Flags{})
				checkShift(t, op, 8, a, n, api.Flags{C: true, Z: true, S: true, O: true, P: true})
			}
		}
	}
}

// P1.3: Shift at the edges of each width: by 0, by the width and beyond, by multiples of it; bits above the width, and counts above what counts.
func TestShiftEdges(t *testing.T) {
	for op := api.ShiftShl; op <= api.ShiftRor; op++ {
		for _, w := range widths {
			for _, a := range edges() {
				for n := range uint64(66) {
					checkShift(t, op, w, a, n, api.Flags{S: true})
				}
				for _, n := range []uint64{95, 96, 97, 127, 128, 129, 255, 256, 1 << 32, 1<<63 + 1, ^uint64(0)} {
					checkShift(t, op, w, a, n, api.Flags{C: true, P: true})
				}
			}
		}
	}
}

// P1.3: by 0 all flags ahead stay; of a rotation Z, S and P do; a shift tells all anew.
func TestShiftFlagsAhead(t *testing.T) {
	for op := api.ShiftShl; op <= api.ShiftRor; op++ {
		for _, w := range widths {
			for _, f := range allFlags() {
				for _, a := range []uint64{0, 1, 3, 0x80, 0xc1, 1 << (w - 1), 3 << (w - 2), ^uint64(0)} {
					for _, n := range []uint64{0, 1, 2, 7, 8, 16, 24, 31, 32, 63, 64} {
						checkShift(t, op, w, a, n, f)
					}
				}
			}
		}
	}
}

// P1.3: Shift, told by hand.
func TestShiftByHand(t *testing.T) {
	all := api.Flags{C: true, Z: true, S: true, O: true, P: true}
	for _, c := range []struct {
		op   api.ShiftOp
		w    api.Width
		a, n uint64
		f    api.Flags
		x    uint64
		g    api.Flags
	}{
		{api.ShiftShl, 8, 129, 1, api.Flags{}, 2, api.Flags{C: true, O: true}},
		{api.ShiftShl, 8, 0xc0, 1, api.Flags{}, 0x80, api.Flags{C: true, S: true}},
		{api.ShiftShl, 8, 0x1ff, 0, all, 0xff, all},
		{api.ShiftShl, 8, 1, 32, api.Flags{Z: true}, 1, api.Flags{Z: true}},
		{api.ShiftShl, 8, 1, 8, all, 0, api.Flags{C: true, Z: true, O: true, P: true}},
		{api.ShiftShl, 8, 255, 9, all, 0, api.Flags{Z: true, P: true}},
		{api.ShiftShl, 64, 1, 64, all, 1, all},
		{api.ShiftShl, 64, 3, 63, api.Flags{}, 1 << 63, api.Flags{C: true, S: true, P: true}},
		{api.ShiftShr, 8, 129, 1, api.Flags{}, 64, api.Flags{C: true, O: true}},
		{api.ShiftShr, 8, 128, 8, api.Flags{}, 0, api.Flags{C: true, Z: true, O: true, P: true}},
		{api.ShiftShr, 8, 255, 9, api.Flags{}, 0, api.Flags{Z: true, O: true, P: true}},
		{api.ShiftShr, 8, 0x101, 1, api.Flags{}, 0, api.Flags{C: true, Z: true, P: true}},
		{api.ShiftShr, 32, 1 << 31, 33, api.Flags{}, 1 << 30, api.Flags{O: true, P: true}},
		{api.ShiftSar, 8, 128, 7, api.Flags{O: true}, 255, api.Flags{S: true, P: true}},
		{api.ShiftSar, 8, 128, 20, api.Flags{}, 255, api.Flags{C: true, S: true, P: true}},
		{api.ShiftSar, 8, 127, 20, all, 0, api.Flags{Z: true, P: true}},
		{api.ShiftSar, 64, 1<<63 + 1, 1, api.Flags{}, 3 << 62, api.Flags{C: true, S: true, P: true}},
		{api.ShiftRol, 8, 129, 1, api.Flags{}, 3, api.Flags{C: true, O: true}},
		{api.ShiftRol, 8, 129, 8, api.Flags{}, 129, api.Flags{C: true}},
		{api.ShiftRol, 8, 128, 16, all, 128, api.Flags{Z: true, S: true, O: true, P: true}},
		{api.ShiftRol, 8, 1, 9, api.Flags{Z: true}, 2, api.Flags{Z: true}},
		{api.ShiftRol, 16, 1, 32, api.Flags{S: true}, 1, api.Flags{S: true}},
		{api.ShiftRor, 8, 1, 1, api.Flags{}, 128, api.Flags{C: true, O: true}},
		{api.ShiftRor, 8, 3, 1, api.Flags{}, 129, api.Flags{C: true, O: true}},
		{api.ShiftRor, 8, 3, 2, api.Flags{}, 192, api.Flags{C: true}},
		{api.ShiftRor, 16, 0x4000, 16, api.Flags{C: true, P: true}, 0x4000, api.Flags{O: true, P: true}},
		{api.ShiftRor, 64, 2, 1, api.Flags{C: true, O: true}, 1, api.Flags{}},
	} {
		if x, g, e := word.Shift(c.op, c.w, c.a, c.n, c.f); x != c.x || g != c.g || e != api.OK {
			t.Errorf("Shift(%d, %d, %#x, %d, %+v): %#x, %+v, %v", c.op, c.w, c.a, c.n, c.f, x, g, e)
		}
	}
}

// P1.3: operations that are none.
func TestShiftRefused(t *testing.T) {
	for _, op := range []api.ShiftOp{0, 6, 7, -1, 1 << 40} {
		for _, w := range append([]api.Width{9}, widths...) {
			for _, n := range []uint64{0, 1} {
				if x, g, e := word.Shift(op, w, 1, n, api.Flags{C: true, P: true}); x != 0 || g != (api.Flags{}) || e != api.ErrArg {
					t.Errorf("Shift(%d, %d, %d): %d, %+v, %v", op, w, n, x, g, e)
				}
			}
		}
	}
}
