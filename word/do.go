package word

import (
	"math/bits"

	"muffle/api"
)

// Do is what an operation of two words comes to at a width, and the flags behind it.
func Do(op api.BinOp, w api.Width, a, b uint64, f api.Flags) (uint64, api.Flags, api.Errno) {
	do, ok := binaries()[op]
	if !ok || !isWidth(w) {
		return 0, api.Flags{}, api.ErrArg
	}
	x, c, o := do(w, low(w, a), low(w, b), oneIf(f.C))
	return x, withAnswer(w, x, c, o), api.OK
}

// binary is asked with low parts, and with 1 if the carry was set ahead; it answers the low part, the carry and the overflow.
type binary func(w api.Width, a, b, carry uint64) (x uint64, c, o bool)

func binaries() map[api.BinOp]binary {
	return map[api.BinOp]binary{
		api.BinAdd: func(w api.Width, a, b, _ uint64) (uint64, bool, bool) { return add(w, a, b, 0) },
		api.BinAdc: add,
		api.BinSub: func(w api.Width, a, b, _ uint64) (uint64, bool, bool) { return sub(w, a, b, 0) },
		api.BinSbb: sub,
		api.BinAnd: func(_ api.Width, a, b, _ uint64) (uint64, bool, bool) { return a & b, false, false },
		api.BinOr:  func(_ api.Width, a, b, _ uint64) (uint64, bool, bool) { return a | b, false, false },
		api.BinXor: func(_ api.Width, a, b, _ uint64) (uint64, bool, bool) { return a ^ b, false, false },
		api.BinMul: func(w api.Width, a, b, _ uint64) (uint64, bool, bool) { return mul(w, a, b) },
	}
}

func add(w api.Width, a, b, carry uint64) (uint64, bool, bool) {
	sum, over := bits.Add64(a, b, carry)
	x := low(w, sum)
	// Below 64 bits the sum is whole, and goes over if a part of it is cut.
	return x, over == 1 || x != sum, top(w, a) == top(w, b) && top(w, x) != top(w, a)
}

func sub(w api.Width, a, b, carry uint64) (uint64, bool, bool) {
	rest, under := bits.Sub64(a, b, carry)
	x := low(w, rest)
	return x, under == 1, top(w, a) != top(w, b) && top(w, x) == top(w, b)
}

func mul(w api.Width, a, b uint64) (uint64, bool, bool) {
	above, below := wideSigned(signed(w, a), signed(w, b))
	x := low(w, below)
	answer := signed(w, x)
	cut := below != answer || above != signs(answer)
	return x, cut, cut
}

// wideSigned is Wide of words with signs.
func wideSigned(a, b uint64) (uint64, uint64) {
	above, below := Wide(a, b)
	// A word below 0 counts 2^64 too much without its sign.
	return above - signs(a)&b - signs(b)&a, below
}

// signs is a word all of whose bits are the top bit of another one.
func signs(a uint64) uint64 {
	return uint64(int64(a) >> 63)
}

// withAnswer is flags: carry and overflow as they are handed in, the others by the answer.
func withAnswer(w api.Width, x uint64, c, o bool) api.Flags {
	return api.Flags{C: c, Z: x == 0, S: top(w, x), O: o, P: bits.OnesCount8(uint8(x))%2 == 0}
}
