package sectype

import (
	"slices"

	"muffle/api"
	"muffle/scope"
)

// basis is what an expression's level hangs on.
// A statement may be gone through very often, and each time what has changed is its words' levels alone: so its expressions, which may be large, are gone through once.
type basis struct {
	words           []string // it is secret, if one of these is
	places          []string // it is refused, if one of these is secret
	secret, refused bool     // whatever levels its words have
}

// basisOf is the basis of an expression of the function f.
func basisOf(p *api.Program, f int, e *api.Expr) basis {
	var b basis
	var within, place func(e *api.Expr)
	within = func(e *api.Expr) {
		switch e.Op {
		case api.OpVar:
			b.words = with(b.words, e.Name)
		case api.OpIndex:
			b.secret = b.secret || isSecret(p, f, e.Name)
			place(&e.Args[0])
		default:
			eachArg(e, within)
		}
	}
	place = func(e *api.Expr) {
		switch e.Op {
		case api.OpVar:
			b.places = with(b.places, e.Name)
		case api.OpIndex:
			b.refused = b.refused || isSecret(p, f, e.Name)
		}
		eachArg(e, place)
	}
	within(e)
	return b
}

// level leaves with ErrSecret, if a place of the expression is secret; else it is the expression's level.
func (b *basis) level(at levels) bool {
	must(!b.refused && !slices.ContainsFunc(b.places, at.secret), api.ErrSecret)
	return b.secret || slices.ContainsFunc(b.words, at.secret)
}

func eachArg(e *api.Expr, see func(e *api.Expr)) {
	for i := range e.Args {
		see(&e.Args[i])
	}
}

// with is a list that has a name, once.
func with(l []string, name string) []string {
	if slices.Contains(l, name) {
		return l
	}
	return append(l, name)
}

// isSecret tells the level of an array, or a region, that the function f sees.
func isSecret(p *api.Program, f int, name string) bool {
	v, _, _ := scope.Find(*p, f, name)
	return v.Secret
}
