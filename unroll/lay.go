package unroll

import "muffle/api"

// laidOut is a list in new memory, with its loops laid out. It leaves with ErrMany, if there is no room for what comes of it.
func laidOut(l []api.Stmt) []api.Stmt {
	room, now := api.MaxSize, numbers{}
	// Each statement is made once, with what all loops around it count: a loop without rounds costs nothing, whatever it has in it.
	var lay func(out, l []api.Stmt) []api.Stmt
	within := func(l []api.Stmt) []api.Stmt { return lay(nil, l) }
	lay = func(out, l []api.Stmt) []api.Stmt {
		for i := range l {
			s := &l[i]
			if s.Kind != api.StFor {
				room -= sizeOf(s)
				must(room >= 0, api.ErrMany)
				out = append(out, now.stmt(*s, within))
				continue
			}
			for round := range roundsOf(s) {
				now[s.Name] = s.Low + round
				out = lay(out, s.Body)
			}
			delete(now, s.Name)
		}
		return out
	}
	return within(l)
}

// termsOf are the terms of a list's statements.
func termsOf(l []api.Stmt) []api.Term {
	return each(l, termOf)
}

func termOf(s api.Stmt) api.Term {
	switch s.Kind {
	case api.StIf:
		return api.Term{Kind: api.TermIf, Subs: [][]api.Term{termsOf(s.Body), termsOf(s.Else)}}
	case api.StWhile:
		return api.Term{Kind: api.TermLoop, Subs: [][]api.Term{termsOf(s.Body)}}
	case api.StFor:
		t := api.Term{Kind: api.TermFor}
		for range roundsOf(&s) {
			t.Subs = append(t.Subs, termsOf(s.Body))
		}
		return t
	}
	return api.Term{Kind: api.TermSame}
}
