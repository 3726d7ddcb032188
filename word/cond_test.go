package word_test

import (
	"testing"

	"muffle/api"
	"muffle/word"
)

// P1.3: Holds, of all conditions and all flags.
func TestHolds(t *testing.T) {
	for _, f := range allFlags() {
		for c, want := range map[api.Cond]bool{
			0: f.O, 1: !f.O, 2: f.C, 3: !f.C, 4: f.Z, 5: !f.Z, 6: f.C || f.Z, 7: !f.C && !f.Z,
			8: f.S, 9: !f.S, 10: f.P, 11: !f.P, 12: f.S != f.O, 13: f.S == f.O, 14: f.Z || f.S != f.O, 15: !f.Z && f.S == f.O,
		} {
			if is, e := word.Holds(c, f); is != want || e != api.OK {
				t.Errorf("Holds(%d, %+v): %v, %v", c, f, is, e)
			}
		}
	}
}

// P1.3: Turned, and that it holds just if the other one does not.
func TestTurned(t *testing.T) {
	for c, want := range map[api.Cond]api.Cond{
		api.CondO: api.CondNO, api.CondB: api.CondAE, api.CondE: api.CondNE, api.CondBE: api.CondA,
		api.CondS: api.CondNS, api.CondP: api.CondNP, api.CondL: api.CondGE, api.CondLE: api.CondG,
	} {
		there, e := word.Turned(c)
		back, g := word.Turned(want)
		if there != want || back != c || e != api.OK || g != api.OK {
			t.Errorf("Turned(%d): %d, %v; and back: %d, %v", c, there, e, back, g)
		}
		for _, f := range allFlags() {
			is, _ := word.Holds(c, f)
			not, _ := word.Holds(there, f)
			if is == not {
				t.Errorf("%d and %d of %+v: both %v", c, there, f, is)
			}
		}
	}
}

// P1.3: conditions that are none.
func TestCondRefused(t *testing.T) {
	for _, c := range []api.Cond{-1, -2, -16, 16, 17, 32, 1 << 40, -1 << 40} {
		for _, f := range allFlags() {
			if is, e := word.Holds(c, f); is || e != api.ErrArg {
				t.Errorf("Holds(%d): %v, %v", c, is, e)
			}
		}
		if d, e := word.Turned(c); d != 0 || e != api.ErrArg {
			t.Errorf("Turned(%d): %d, %v", c, d, e)
		}
	}
}
