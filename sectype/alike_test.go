package sectype_test

import (
	"fmt"
	"testing"

	"muffle/api"
)

func alikeProgram(t *testing.T) api.Program {
	t.Helper()
	return program(t, "region a 0 2; region b 64 3 secret; region c 128 1; fn g(x secret, y) { } fn f(p, q secret, r, s secret) { }")
}

func alikeInput() api.Input {
	return api.Input{Args: []uint64{1, 2, 3, 4}, Regions: [][]uint64{{5, 6}, {7, 8, 9}, {10}}}
}

// P9.3: inputs that agree in all, and that differ in one word, or in two.
func TestAlike(t *testing.T) {
	p := alikeProgram(t)
	wantAlike(t, "the same", p, alikeInput(), alikeInput(), true)
	in := alikeInput()
	wantAlike(t, "one input", p, in, in, true)
	type place struct{ list, at int }
	secret := map[place]bool{{-1, 1}: true, {-1, 3}: true, {1, 0}: true, {1, 1}: true, {1, 2}: true}
	places := []place{{-1, 0}, {-1, 1}, {-1, 2}, {-1, 3}, {0, 0}, {0, 1}, {1, 0}, {1, 1}, {1, 2}, {2, 0}}
	differ := func(in api.Input, at place, x uint64) {
		if at.list < 0 {
			in.Args[at.at] = x
		} else {
			in.Regions[at.list][at.at] = x
		}
	}
	for _, one := range places {
		for _, x := range []uint64{0, 11, 1<<64 - 1} {
			b := alikeInput()
			differ(b, one, x)
			wantAlike(t, fmt.Sprint("one differs, at ", one), p, alikeInput(), b, secret[one])
		}
		for _, other := range places {
			b := alikeInput()
			differ(b, one, 11)
			differ(b, other, 12)
			wantAlike(t, fmt.Sprint("two differ, at ", one, other), p, alikeInput(), b, secret[one] && secret[other])
		}
	}
	b := alikeInput()
	for at := range secret {
		differ(b, at, 99)
	}
	wantAlike(t, "all secrets differ", p, alikeInput(), b, true)
	// Of no other function than the last one do Params count.
	p.Funcs = append(p.Funcs, api.Func{Name: "h"})
	wantAlike(t, "no Params", p, api.Input{Regions: alikeInput().Regions}, api.Input{Regions: b.Regions}, true)
	wantAlike(t, "nothing at all", program(t, "fn f() { }"), api.Input{}, api.Input{Args: []uint64{}, Regions: [][]uint64{}}, true)
}

// P9.3: inputs that do not fit, whichever of them, are not alike, also where they are the same.
func TestAlikeOfUnfit(t *testing.T) {
	p := alikeProgram(t)
	for what, spoil := range map[string]func(in *api.Input){
		"no Args":              func(in *api.Input) { in.Args = nil },
		"one Arg too few":      func(in *api.Input) { in.Args = in.Args[:3] },
		"one Arg too many":     func(in *api.Input) { in.Args = append(in.Args, 0) },
		"no regions":           func(in *api.Input) { in.Regions = nil },
		"one region too few":   func(in *api.Input) { in.Regions = in.Regions[:2] },
		"one region too many":  func(in *api.Input) { in.Regions = append(in.Regions, []uint64{1}) },
		"an empty region":      func(in *api.Input) { in.Regions[1] = nil },
		"a short region":       func(in *api.Input) { in.Regions[0] = in.Regions[0][:1] },
		"a long region":        func(in *api.Input) { in.Regions[2] = append(in.Regions[2], 0) },
		"a short secret one":   func(in *api.Input) { in.Regions[1] = in.Regions[1][:2] },
		"a long secret region": func(in *api.Input) { in.Regions[1] = append(in.Regions[1], 0) },
		"nothing":              func(in *api.Input) { *in = api.Input{} },
	} {
		bad := alikeInput()
		spoil(&bad)
		wantAlike(t, what, p, alikeInput(), bad, false)
		wantAlike(t, what+", of both", p, bad, bad, false)
	}
}

// P9.3: of a program that may not be no inputs are alike.
func TestAlikeOfNoProgram(t *testing.T) {
	in := api.Input{Args: []uint64{1, 2}, Regions: [][]uint64{{3, 4}}}
	for errno, l := range spoils() {
		for i, spoil := range l {
			p := twoFuncs(t)
			wantAlike(t, "one that may be", p, in, in, true)
			spoil(&p)
			wantAlike(t, fmt.Sprint(errno, ", the way ", i), p, in, in, false)
			wantAlike(t, fmt.Sprint(errno, ", the way ", i, ", of nothing"), p, api.Input{}, api.Input{}, false)
		}
	}
	wantAlike(t, "a program without anything", api.Program{}, api.Input{}, api.Input{}, false)
	// Whether secrets are kept is not asked.
	wantAlike(t, "secrets not kept", program(t, "fn f(k secret, n) { if k { } }"), api.Input{Args: []uint64{1, 2}}, api.Input{Args: []uint64{3, 2}}, true)
}
