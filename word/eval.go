package word

import (
	"math/bits"

	"muffle/api"
)

// Args is how many words an operation of the language takes; -1: it is none that takes words.
func Args(op api.Op) int {
	switch {
	case op == api.OpNot || op == api.OpNeg:
		return 1
	case op >= api.OpAdd && op <= api.OpLe:
		return 2
	case op == api.OpPick:
		return 3
	}
	return -1
}

// Eval is what an operation of the language comes to.
func Eval(op api.Op, args ...uint64) (uint64, api.Errno) {
	if n := Args(op); n < 0 || n != len(args) {
		return 0, api.ErrArg
	}
	return operations(op)[op](args...), api.OK
}

// operation is asked with as many words as it takes.
type operation func(l ...uint64) uint64

// operations makes the table in which an operation that takes words stands.
// There are three of them, since a table of at most eight entries is made much faster, and one is made for each call.
func operations(op api.Op) map[api.Op]operation {
	switch {
	case op <= api.OpXor:
		return sums()
	case op <= api.OpRor:
		return turns()
	}
	return choices()
}

func sums() map[api.Op]operation {
	return map[api.Op]operation{
		api.OpNot: func(l ...uint64) uint64 { return ^l[0] },
		api.OpNeg: func(l ...uint64) uint64 { return -l[0] },
		api.OpAdd: func(l ...uint64) uint64 { return l[0] + l[1] },
		api.OpSub: func(l ...uint64) uint64 { return l[0] - l[1] },
		api.OpMul: func(l ...uint64) uint64 { return l[0] * l[1] },
		api.OpAnd: func(l ...uint64) uint64 { return l[0] & l[1] },
		api.OpOr:  func(l ...uint64) uint64 { return l[0] | l[1] },
		api.OpXor: func(l ...uint64) uint64 { return l[0] ^ l[1] },
	}
}

func turns() map[api.Op]operation {
	return map[api.Op]operation{
		api.OpShl: func(l ...uint64) uint64 { return l[0] << (l[1] % 64) },
		api.OpShr: func(l ...uint64) uint64 { return l[0] >> (l[1] % 64) },
		api.OpSar: func(l ...uint64) uint64 { return uint64(int64(l[0]) >> (l[1] % 64)) },
		api.OpRol: func(l ...uint64) uint64 { return bits.RotateLeft64(l[0], int(l[1]%64)) },
		api.OpRor: func(l ...uint64) uint64 { return bits.RotateLeft64(l[0], -int(l[1]%64)) },
	}
}

func choices() map[api.Op]operation {
	return map[api.Op]operation{
		api.OpEq: func(l ...uint64) uint64 { return oneIf(l[0] == l[1]) },
		api.OpNe: func(l ...uint64) uint64 { return oneIf(l[0] != l[1]) },
		api.OpLt: func(l ...uint64) uint64 { return oneIf(l[0] < l[1]) },
		api.OpLe: func(l ...uint64) uint64 { return oneIf(l[0] <= l[1]) },
		api.OpPick: func(l ...uint64) uint64 {
			if l[0] != 0 {
				return l[1]
			}
			return l[2]
		},
	}
}

func oneIf(is bool) uint64 {
	if is {
		return 1
	}
	return 0
}
