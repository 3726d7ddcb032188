package scope_test

import (
	"testing"

	"muffle/api"
	"muffle/scope"
)

func wantFit(t *testing.T, what string, p api.Program, in api.Input, want api.Errno) {
	t.Helper()
	if got := scope.Fit(p, in); got != want {
		t.Errorf("%s: %v, not %v", what, got, want)
	}
}

// P7.4: Fit: as many Args as the last function's Params, as many Regions, each as long.
func TestFit(t *testing.T) {
	p := whole()
	of := func(args int, regions ...int) api.Input {
		in := api.Input{Args: make([]uint64, args)}
		for _, n := range regions {
			in.Regions = append(in.Regions, make([]uint64, n))
		}
		return in
	}
	wantFit(t, "as it should be", p, of(2, 4, 16), api.OK)
	in := of(2, 4, 16)
	in.Args[0], in.Args[1], in.Regions[1][15] = 7, 1<<64-1, 1<<64-1
	wantFit(t, "any words", p, in, api.OK)
	for what, in := range map[string]api.Input{
		"nothing":            {},
		"an Arg too few":     of(1, 4, 16),
		"no Args":            of(0, 4, 16),
		"an Arg too many":    of(3, 4, 16),
		"no region":          of(2),
		"a region too few":   of(2, 4),
		"the second alone":   of(2, 16),
		"a region too many":  of(2, 4, 16, 0),
		"one more of a word": of(2, 4, 16, 1),
		"a word too few":     of(2, 3, 16),
		"a word too many":    of(2, 5, 16),
		"another too few":    of(2, 4, 15),
		"another too many":   of(2, 4, 17),
		"an empty region":    of(2, 4, 0),
		"the other order":    of(2, 16, 4),
	} {
		wantFit(t, what, p, in, api.ErrArg)
	}
	// Of a function ahead nothing is asked.
	p.Funcs = p.Funcs[:3]
	p.Funcs[2].Params, p.Funcs[2].Body = vars{reg("x")}, nil
	wantFit(t, "a parameter of the last", p, of(1, 4, 16), api.OK)
	wantFit(t, "two, as the first has", p, of(2, 4, 16), api.ErrArg)
	one := api.Program{Funcs: []api.Func{{Name: "f"}}}
	wantFit(t, "nothing, of nothing", one, api.Input{}, api.OK)
	wantFit(t, "empty lists, of nothing", one, api.Input{Args: []uint64{}, Regions: [][]uint64{}}, api.OK)
	wantFit(t, "an empty region, of nothing", one, of(0, 0), api.ErrArg)
	wantFit(t, "an Arg, of nothing", one, of(1), api.ErrArg)
}

// P7.4: nothing fits a program that may not be.
func TestFitOfNone(t *testing.T) {
	wantFit(t, "nothing, of no function", api.Program{}, api.Input{}, api.ErrArg)
	p := whole()
	fits := 0
	eachChange(&p, func(what string) {
		if modelMay(p) == api.OK {
			fits++
			wantFit(t, what, p, inputOf(p), api.OK)
		} else {
			wantFit(t, what, p, inputOf(p), api.ErrArg)
		}
	})
	if fits < 100 {
		t.Error("too few that may be:", fits)
	}
}
