package word

import "muffle/api"

// Holds tells whether a condition holds of flags.
func Holds(c api.Cond, f api.Flags) (bool, api.Errno) {
	if !isCond(c) {
		return false, api.ErrArg
	}
	odd := c%2 == 1
	return holdsEven(c-c%2, f) != odd, api.OK
}

// Turned is the condition that holds just if another one does not.
func Turned(c api.Cond) (api.Cond, api.Errno) {
	if !isCond(c) {
		return 0, api.ErrArg
	}
	return c ^ 1, api.OK
}

func isCond(c api.Cond) bool {
	return c >= api.CondO && c <= api.CondG
}

// holdsEven is Holds of one of the conditions with even numbers.
func holdsEven(c api.Cond, f api.Flags) bool {
	var is bool
	switch c {
	case api.CondO:
		is = f.O
	case api.CondE:
		is = f.Z
	case api.CondS:
		is = f.S
	case api.CondP:
		is = f.P
	case api.CondBE:
		is = f.Z
		fallthrough
	case api.CondB:
		is = is || f.C
	case api.CondLE:
		is = f.Z
		fallthrough
	case api.CondL:
		is = is || f.S != f.O
	}
	return is
}
