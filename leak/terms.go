package leak

import "muffle/api"

// Terms tells whether a list of terms may be.
func Terms(t []api.Term) bool {
	left := api.MaxNodes
	var may func(l []api.Term, deep int) bool
	may = func(l []api.Term, deep int) bool {
		if len(l) > 0 && deep > api.MaxDeep || len(l) > left {
			return false
		}
		left -= len(l)
		for i := range l {
			if !hasSubs(&l[i]) || !arePicks(l[i].Lines) {
				return false
			}
			for _, sub := range l[i].Subs {
				if !may(sub, deep+1) {
					return false
				}
			}
		}
		return true
	}
	return may(t, 1)
}

// hasSubs tells whether a term has a kind, and as many lists as that has.
func hasSubs(t *api.Term) bool {
	switch t.Kind {
	case api.TermFor:
		return true
	case api.TermSame, api.TermLines, api.TermNone:
		return len(t.Subs) == 0
	case api.TermTaken, api.TermLoop, api.TermEach:
		return len(t.Subs) == 1
	case api.TermCall:
		if len(t.Subs) != 2 || !areBehind(t.Subs[1]) {
			return false
		}
		fallthrough
	case api.TermIf:
		return len(t.Subs) == 2
	}
	return false
}

// areBehind tells whether terms may stand behind a call: no node is there whose items they could pick.
func areBehind(l []api.Term) bool {
	for i := range l {
		if l[i].Kind != api.TermLines || greatest(l[i].Lines) >= 0 {
			return false
		}
	}
	return true
}

func arePicks(lines [][]api.Pick) bool {
	for _, line := range lines {
		for _, p := range line {
			if p.Kind < api.PickItem || p.Kind > api.PickAddr || p.Item < 0 {
				return false
			}
		}
	}
	return true
}

// greatest is the greatest Item that lines pick of a node; -1: they pick none.
func greatest(lines [][]api.Pick) int {
	item := -1
	for _, line := range lines {
		for _, p := range line {
			if p.Kind == api.PickItem || p.Kind == api.PickPlace {
				item = max(item, p.Item)
			}
		}
	}
	return item
}
