package leak

import "muffle/api"

// check is the first error of a leakage: its size is asked of all of it, ahead of what its nodes are.
func check(l []api.Leak) api.Errno {
	if errno := measure(l); errno != api.OK {
		return errno
	}
	if !shaped(l) {
		return api.ErrArg
	}
	return api.OK
}

func measure(l []api.Leak) api.Errno {
	return caught(func() {
		left := api.MaxNodes
		walk(l, 1, func(n *api.Leak, deep int) bool {
			if deep > api.MaxDeep {
				panic(api.ErrNest)
			}
			left -= 1 + len(n.Items)
			if left < 0 {
				panic(api.ErrLong)
			}
			return true
		})
	})
}

// shaped tells whether each node is as its kind says.
func shaped(l []api.Leak) bool {
	for i := range l {
		if !hasFields(&l[i]) || l[i].Kind == api.LeakLoop && !isAskings(l[i].Subs[0]) {
			return false
		}
		for _, sub := range l[i].Subs {
			if !shaped(sub) {
				return false
			}
		}
	}
	return true
}

// hasFields tells whether a node has those fields alone that its kind has.
func hasFields(n *api.Leak) bool {
	switch n.Kind {
	case api.LeakLoop:
		if len(n.Items) > 0 {
			return false
		}
		fallthrough
	case api.LeakCall:
		if n.Taken {
			return false
		}
		fallthrough
	case api.LeakIf:
		return len(n.Subs) == 1
	case api.LeakLine:
		if len(n.Subs) > 0 {
			return false
		}
		return !n.Taken
	case api.LeakFor:
		return len(n.Items) == 0 && !n.Taken
	}
	return false
}

// isAskings tells whether a list may be a loop's: what is not taken ends it, and a part of one may end anywhere.
func isAskings(l []api.Leak) bool {
	for i := range l {
		switch l[i].Kind {
		case api.LeakLine:
		case api.LeakIf:
			if !l[i].Taken && (i < len(l)-1 || !isEmpty(l[i].Subs)) {
				return false
			}
		default:
			return false
		}
	}
	return true
}

func isEmpty(lists [][]api.Leak) bool {
	for _, l := range lists {
		if len(l) > 0 {
			return false
		}
	}
	return true
}
