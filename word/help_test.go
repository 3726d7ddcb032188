package word_test

import (
	"math/big"

	"muffle/api"
)

// What the tests hold the package against is told here anew, by big numbers and by going bit by bit.

var widths = []api.Width{api.Width8, api.Width16, api.Width32, api.Width64}

var noWidths = []api.Width{0, 1, 7, 9, 15, 24, 31, 33, 63, 65, 128, 256, -8, -64, 1 << 40}

// edges are words at the edges of each width, some with bits above it.
func edges() []uint64 {
	l := []uint64{0, 1, 2, 3, 5, 7, 0x55, 0xaa, 0x0123456789abcdef, 0xfedcba9876543210, 0xaaaaaaaaaaaaaaaa, 0x5555555555555555, 1 << 40, 0xff00}
	for _, w := range widths {
		top := uint64(1) << (w - 1)
		l = append(l, top-1, top, top+1, top<<1-1, top<<1-2, top<<1, top>>1, top|1<<63)
	}
	return append(l, ^uint64(0))
}

func allFlags() []api.Flags {
	var l []api.Flags
	for i := range 32 {
		l = append(l, api.Flags{C: i&1 != 0, Z: i&2 != 0, S: i&4 != 0, O: i&8 != 0, P: i&16 != 0})
	}
	return l
}

func two(n int) *big.Int { return new(big.Int).Lsh(big.NewInt(1), uint(n)) }

// plain is the low part as a number without a sign.
func plain(w api.Width, a uint64) *big.Int {
	return new(big.Int).Mod(new(big.Int).SetUint64(a), two(int(w)))
}

// withSign is the low part as a number with its sign.
func withSign(w api.Width, a uint64) *big.Int {
	x := plain(w, a)
	if x.Cmp(two(int(w)-1)) >= 0 {
		x.Sub(x, two(int(w)))
	}
	return x
}

func cut(w api.Width, x *big.Int) uint64 {
	return new(big.Int).Mod(x, two(int(w))).Uint64()
}

func has(x uint64, i int) bool { return x>>uint(i)&1 == 1 }

func byAnswer(w api.Width, x uint64) api.Flags {
	even := true
	for i := range 8 {
		even = even != has(x, i)
	}
	return api.Flags{Z: x == 0, S: has(x, int(w)-1), P: even}
}

// wantDo is what an operation of two words should come to.
func wantDo(op api.BinOp, w api.Width, a, b uint64, f api.Flags) (uint64, api.Flags) {
	x, y := plain(w, a), plain(w, b)
	sx, sy := withSign(w, a), withSign(w, b)
	carry := big.NewInt(0)
	if f.C && (op == api.BinAdc || op == api.BinSbb) {
		carry.SetInt64(1)
	}
	whole, signed := new(big.Int), new(big.Int)
	var c bool
	switch op {
	case api.BinAdd, api.BinAdc:
		whole.Add(whole.Add(x, y), carry)
		signed.Add(signed.Add(sx, sy), carry)
		c = whole.Cmp(two(int(w))) >= 0
	case api.BinSub, api.BinSbb:
		whole.Sub(whole.Sub(x, y), carry)
		signed.Sub(signed.Sub(sx, sy), carry)
		c = whole.Sign() < 0
	case api.BinAnd:
		whole.And(x, y)
	case api.BinOr:
		whole.Or(x, y)
	case api.BinXor:
		whole.Xor(x, y)
	case api.BinMul:
		whole.Mul(x, y)
		signed.Mul(sx, sy)
	}
	answer := cut(w, whole)
	g := byAnswer(w, answer)
	if op < api.BinAnd || op == api.BinMul {
		g.O = signed.Cmp(withSign(w, answer)) != 0
	}
	g.C = c || op == api.BinMul && g.O
	return answer, g
}

// wantShift is what a shift should come to: one bit after the other.
func wantShift(op api.ShiftOp, w api.Width, a, count uint64, f api.Flags) (uint64, api.Flags) {
	n := int(count & 31)
	if w == 64 {
		n = int(count & 63)
	}
	ahead := cut(w, plain(w, a))
	if n == 0 {
		return ahead, f
	}
	x, top, out := ahead, int(w)-1, false
	for range n {
		high, lowest := has(x, top), has(x, 0)
		switch op {
		case api.ShiftShl, api.ShiftRol:
			x, out = cut(w, plain(w, x<<1)), high
		default:
			x, out = x>>1, lowest
		}
		switch {
		case op == api.ShiftSar && high, op == api.ShiftRor && lowest:
			x |= 1 << top
		case op == api.ShiftRol && high:
			x |= 1
		}
	}
	g := byAnswer(w, x)
	switch op {
	case api.ShiftShl:
		g.C, g.O = out, out != has(x, top)
	case api.ShiftShr:
		g.C, g.O = out, has(ahead, top)
	case api.ShiftSar:
		g.C, g.O = out, false
	case api.ShiftRol:
		g = f
		g.C, g.O = has(x, 0), has(x, 0) != has(x, top)
	case api.ShiftRor:
		g = f
		g.C, g.O = has(x, top), has(x, top) != has(x, top-1)
	}
	return x, g
}
