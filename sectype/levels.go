package sectype

import "maps"

// levels are those of a function's words at a place of it: it has the names of the secret ones alone.
type levels map[string]struct{}

func (l levels) secret(name string) bool {
	_, is := l[name]
	return is
}

func (l levels) set(name string, secret bool) {
	if secret {
		l[name] = struct{}{}
	} else {
		delete(l, name)
	}
}

func (l levels) copied() levels {
	return maps.Clone(l)
}

// join makes secret what is secret in others.
func (l levels) join(others levels) {
	maps.Copy(l, others)
}

// settle raises levels to the least ones that a loop's round does not raise.
// The round is handed a copy of those ahead of it, and makes of that those behind it.
func (l levels) settle(round func(at levels)) {
rounds:
	for {
		behind := l.copied()
		round(behind)
		for name := range behind {
			if !l.secret(name) {
				l.join(behind)
				continue rounds
			}
		}
		break rounds
	}
}
