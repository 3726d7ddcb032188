package word

import "muffle/api"

// Shift is what a shift by a count comes to at a width, and the flags behind it.
func Shift(op api.ShiftOp, w api.Width, a uint64, count uint64, f api.Flags) (uint64, api.Flags, api.Errno) {
	do, ok := shifts()[op]
	if !ok || !isWidth(w) {
		return 0, api.Flags{}, api.ErrArg
	}
	a = low(w, a)
	n := counted(w, count)
	if n == 0 {
		return a, f, api.OK
	}
	x, c, o := do(w, a, n)
	if op == api.ShiftRol || op == api.ShiftRor {
		f.C, f.O = c, o
		return x, f, api.OK
	}
	return x, withAnswer(w, x, c, o), api.OK
}

// counted is how much of a count counts: six bits at the greatest width, else five.
func counted(w api.Width, count uint64) uint64 {
	if w == api.Width64 {
		return count % 64
	}
	return count % 32
}

// shift is asked with a low part and a count that is not 0; it answers the low part, the carry and the overflow.
type shift func(w api.Width, a, n uint64) (x uint64, c, o bool)

func shifts() map[api.ShiftOp]shift {
	return map[api.ShiftOp]shift{
		api.ShiftShl: func(w api.Width, a, n uint64) (uint64, bool, bool) {
			x := low(w, a<<n)
			c := n <= uint64(w) && bit(a, uint64(w)-n)
			return x, c, c != top(w, x)
		},
		api.ShiftShr: func(w api.Width, a, n uint64) (uint64, bool, bool) {
			return a >> n, bit(a, n-1), top(w, a)
		},
		api.ShiftSar: func(w api.Width, a, n uint64) (uint64, bool, bool) {
			s := signed(w, a)
			return low(w, uint64(int64(s)>>n)), bit(s, n-1), false
		},
		api.ShiftRol: func(w api.Width, a, n uint64) (uint64, bool, bool) {
			x := round(w, a, n%uint64(w))
			c := bit(x, 0)
			return x, c, c != top(w, x)
		},
		api.ShiftRor: func(w api.Width, a, n uint64) (uint64, bool, bool) {
			x := round(w, a, uint64(w)-n%uint64(w))
			return x, top(w, x), top(w, x) != bit(x, uint64(w)-2)
		},
	}
}

// round is a low part turned to the left by a count of 0 to the width.
func round(w api.Width, a, n uint64) uint64 {
	return low(w, a<<n|a>>(uint64(w)-n))
}

func bit(a, i uint64) bool {
	return a>>i&1 == 1
}
