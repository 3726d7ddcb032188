// Package word is layer 1: words of 64, 32, 16 and 8 bits, and flags.
// See shared/doc/01-word.md.
package word

import (
	"math/bits"

	"muffle/api"
)

// Low is the low part of a word at a width.
func Low(w api.Width, a uint64) (uint64, api.Errno) {
	if !isWidth(w) {
		return 0, api.ErrArg
	}
	return low(w, a), api.OK
}

// Signed is the low part, with its top bit in all higher bits, too.
func Signed(w api.Width, a uint64) (uint64, api.Errno) {
	if !isWidth(w) {
		return 0, api.ErrArg
	}
	return signed(w, a), api.OK
}

// Not is the low part with each bit turned.
func Not(w api.Width, a uint64) (uint64, api.Errno) {
	if !isWidth(w) {
		return 0, api.ErrArg
	}
	return low(w, ^a), api.OK
}

// Neg is what is left of 0 when a word is taken from it, and the flags behind that.
func Neg(w api.Width, a uint64) (uint64, api.Flags, api.Errno) {
	return Do(api.BinSub, w, 0, a, api.Flags{})
}

// Wide is a product in full: high times 2^64, and low.
func Wide(a, b uint64) (high, low uint64) {
	return bits.Mul64(a, b)
}

func isWidth(w api.Width) bool {
	switch w {
	case api.Width8, api.Width16, api.Width32, api.Width64:
		return true
	}
	return false
}

// low is Low at a width that is known to be one: a width that is none would make a shift panic.
func low(w api.Width, a uint64) uint64 {
	rest := api.Width64 - w
	return a << rest >> rest
}

// signed is Signed at a width that is known to be one.
func signed(w api.Width, a uint64) uint64 {
	rest := api.Width64 - w
	return uint64(int64(a<<rest) >> rest)
}

// top is the top bit at a width that is known to be one.
func top(w api.Width, a uint64) bool {
	return a>>(w-1)&1 == 1
}
