package unroll

import "muffle/api"

// maxTerms is how many terms are too many. They have 64 bytes each, and nothing is promised of answers that have 2^31 bytes.
// Only loops without rounds can make so many: nothing of them is in the result, or counted as a round, but each has a term in each round around it.
const maxTerms = 1 << 25

// countRounds is how many rounds the loops of a list have, up to one more than there may be.
func countRounds(l []api.Stmt) int {
	return int(sum(l, api.MaxSize+1, func(s *api.Stmt, within uint64) uint64 {
		if s.Kind == api.StFor {
			return roundsOf(s) * (1 + within)
		}
		return within
	}))
}

// countTerms is how many terms a list has, with those within others, up to maxTerms.
func countTerms(l []api.Stmt) int {
	return int(sum(l, maxTerms, func(s *api.Stmt, within uint64) uint64 {
		if s.Kind == api.StFor {
			return 1 + roundsOf(s)*within
		}
		return 1 + within
	}))
}

// sum is what the statements of a list come to together, up to most; what each comes to hangs on what those within it come to.
// It is reckoned, not counted round by round: so far too many rounds cost nothing.
func sum(l []api.Stmt, most uint64, of func(s *api.Stmt, within uint64) uint64) uint64 {
	n := uint64(0)
	for i := range l {
		within := sum(l[i].Body, most, of) + sum(l[i].Else, most, of)
		n = min(n+of(&l[i], within), most)
	}
	return n
}

func roundsOf(s *api.Stmt) uint64 {
	return s.High - s.Low
}

// sizeOf is how many statements and expressions a statement is, without those statements that are within it.
func sizeOf(s *api.Stmt) int {
	n := 1 + sizeOfExprs(s.Args)
	for _, e := range [2]*api.Expr{&s.A, &s.E} {
		// A statement of another kind has a zero one there, which is none.
		if e.Op != 0 {
			n += 1 + sizeOfExprs(e.Args)
		}
	}
	return n
}

func sizeOfExprs(l []api.Expr) int {
	n := len(l)
	for i := range l {
		n += sizeOfExprs(l[i].Args)
	}
	return n
}
