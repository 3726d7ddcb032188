package sectype_test

import (
	"fmt"
	"testing"

	"muffle/api"
)

// P9.1: a StWhile's levels are the least: found in as many rounds as they take, and one in which nothing changes.
func TestWhile(t *testing.T) {
	for _, c := range []struct {
		body, levels string
		begun        int
	}{
		{"while n { }", "ppp", 1},
		{"while n { x = 1; }", "ppp", 2},
		{"while n { x = n; y = x; }", "ppp", 3},
		// One round that changes something.
		{"while n { x = k; }", "spp", 3},
		{"while n { x = k; y = x; z = y; }", "sss", 7},
		// What is secret ahead, and behind, changes nothing.
		{"x = k; while n { x = k; }", "spp", 3},
		{"x = k; while n { x = 1; }", "spp", 3},
		{"x = k; y = k; while n { y = 1; x = y; }", "ssp", 5},
		{"x = k; x = 1; while n { }", "ppp", 3},
		{"while n { x = k; x = 1; }", "ppp", 3},
		// Two rounds, three, and more.
		{"while n { y = x; x = k; }", "ssp", 7},
		{"while n { z = y; y = x; x = k; }", "sss", 13},
		{"while n { v = u; u = z; z = y; y = x; x = k; }", "sss", 31},
		{"while n { w = v; v = u; u = z; z = y; y = x; x = k; }", "sss", 43},
		{"x = k; while n { z = y; y = x; }", "sss", 8},
		// What is gone behind a round was there ahead of it.
		{"x = k; while n { y = x; x = 0; }", "ssp", 6},
		{"x = k; y = k; while n { x = 0; y = 0; }", "ssp", 5},
		{"while n { y = x; x = k; x = 0; }", "ppp", 4},
		// Branches and calls within.
		{"while n { if n { x = k; } else { y = x; } }", "ssp", 10},
		{"while n { if n { y = x; } else { x = hide(n); } }", "ssp", 10},
		{"while n { x = open(n); y = hide(x); }", "psp", 5},
		// Behind it they are as ahead of its condition.
		{"while n { x = k; } y = x; x = 1;", "psp", 5},
		{"x = 1; while x { x = (x - 1); } y = k;", "psp", 4},
	} {
		bodyBegun(t, c.body, c.levels, c.begun)
	}
	for _, c := range [][2]string{
		{"while k { }", refused},
		{"while (n & k) { }", refused},
		{"while 1 { r[0] = k; }", refused},
		{"while 0 { r[0] = k; }", refused},
		{"while r[0] { s[0] = n; } while t[0] { }", refused},
		{"x = k; while x { x = 0; }", refused},
		{"x = k; x = 0; while x { x = 1; }", "ppp"},
		{"while n { n = 0; } x = n;", "ppp"},
		{"while n { k = 0; } x = k;", "spp"},
		{"k = 0; while n { k = 0; } x = k;", "ppp"},
	} {
		wantBody(t, c[0], c[1])
	}
}

// P9.1: what is an error only from a later round's levels.
func TestBehindRounds(t *testing.T) {
	for _, c := range [][2]string{
		// Of the condition.
		{"while x { x = k; }", refused},
		{"while x { x = y; y = k; }", refused},
		{"while x { x = y; y = z; z = u; u = k; }", refused},
		{"while x { x = y; y = z; z = u; u = n; }", "ppp"},
		{"while x { y = z; z = k; }", "pss"},
		// Of the body.
		{"while n { r[0] = x; x = k; }", refused},
		{"while n { if x { } x = k; }", refused},
		{"while n { x = 0; if x { } x = k; }", "spp"},
		{"while n { y = s[x]; x = k; }", refused},
		{"while n { y = open(x); x = k; }", refused},
		{"while n { while x { } x = k; }", refused},
		{"while n { if x { } x = y; y = z; z = k; }", refused},
		{"while n { x = k; if n { } x = 0; if x { } }", "ppp"},
		{"for i 0 3 { r[i] = x; x = k; }", refused},
		{"for i 0 1 { r[i] = x; x = k; }", refused},
		{"for i 0 0 { r[i] = x; x = k; }", refused},
		{"for i 0 3 { if x { } x = y; y = z; z = k; }", refused},
		{"for i 0 3 { y = open(x); x = hide(y); }", refused},
		// Behind it.
		{"while n { y = x; x = k; } if y { }", refused},
		{"while n { y = x; x = k; } y = 0; if y { }", "spp"},
		{"for i 0 2 { z = y; y = x; x = k; } while z { }", refused},
	} {
		wantBody(t, c[0], c[1])
	}
}

// P9.1: a StFor is as a StWhile, without a condition, however many rounds it has; its Name is public ahead of, within and behind its Body.
func TestFor(t *testing.T) {
	for _, c := range []struct {
		body, levels string
		begun        int
	}{
		{"for i 0 3 { x = 1; }", "ppp", 2},
		{"for i 0 0 { x = k; }", "spp", 3},
		{"for i 0 1 { y = x; x = k; }", "ssp", 7},
		{"for i 0 65536 { y = x; x = k; }", "ssp", 7},
		{"for i 0 3 { z = y; y = x; x = k; }", "sss", 13},
		{"for i 1 1 { z = y; y = x; x = k; }", "sss", 13},
		{"x = k; for i 0 3 { x = i; }", "spp", 3},
		{"for i 0 3 { x = k; x = i; }", "ppp", 3},
		{"x = i; for i 0 3 { y = i; } z = i;", "ppp", 4},
		{"for i 0 3 { x = r[i]; s[i] = x; if i { } while i { } x = open(i); }", "ppp", 6},
		{"if i { } for i 0 3 { x = k; } if i { } y = r[i];", "spp", 6},
		{"for i 0 3 { x = (k + i); }", "spp", 3},
		{"for i 0 3 { } for i 0 3 { x = i; } for j 0 3 { for i 0 3 { y = i; } }", "ppp", 6},
	} {
		bodyBegun(t, c.body, c.levels, c.begun)
	}
	for _, c := range [][2]string{
		{"for i 0 3 { if k { } }", refused},
		{"for i 0 3 { r[i] = k; }", refused},
		{"for i 0 3 { rs[i] = k; t[i] = rs[i]; x = t[i]; }", "spp"},
		{"for i 0 3 { x = r[(i + k)]; }", refused},
	} {
		wantBody(t, c[0], c[1])
	}
}

// P9.1: loops within loops: an inner one is gone through anew in each round of an outer one, from the levels there.
func TestLoopsWithin(t *testing.T) {
	for _, c := range []struct {
		body, levels string
		begun        int
	}{
		{"while n { while n { } }", "ppp", 2},
		{"while n { while n { x = k; } }", "spp", 1 + (1 + 2) + (1 + 1)},
		{"for i 0 2 { for j 0 2 { x = k; } }", "spp", 1 + (1 + 2) + (1 + 1)},
		{"while n { for i 0 2 { y = x; x = k; } }", "ssp", 1 + (1 + 2*3) + (1 + 2)},
		{"for i 0 2 { while n { y = x; } x = k; }", "ssp", 1 + (1 + 1 + 1) + (1 + 2 + 1) + (1 + 1 + 1)},
		{"while n { while n { y = x; } while n { x = k; } }", "ssp", 1 + (2 + 3) + (3 + 2) + (2 + 2)},
		// An inner loop that begins from public words each time goes round as often each time.
		{"while n { x = 0; while n { x = k; } }", "spp", 1 + (1 + 1 + 2) + (1 + 1 + 2)},
		{"while n { x = 0; y = 0; while n { y = x; x = k; } z = y; }", "sss", 1 + 2*(3+1+6)},
		{"while n { while n { while n { x = k; } } }", "spp", 1 + (1 + (1 + 2) + (1 + 1)) + (1 + (1 + 1))},
	} {
		bodyBegun(t, c.body, c.levels, c.begun)
	}
	for _, c := range [][2]string{
		{"while n { while x { } while n { x = k; } }", refused},
		{"while n { x = 0; while x { } x = 0; while n { x = k; } }", "spp"},
		{"for i 0 2 { for j 0 2 { r[j] = x; } x = y; y = k; }", refused},
		{"while n { while n { y = x; x = k; } r[0] = y; }", refused},
		{"while n { while n { while n { z = y; } y = x; } x = k; } if z { }", refused},
		{"while n { while n { while n { z = y; } y = 0; } y = k; } if z { }", refused},
	} {
		wantBody(t, c[0], c[1])
	}
}

// P9.1: a secret that takes one more round for each word, along as many as there may be.
func TestManyRounds(t *testing.T) {
	for n := 1; n <= api.MaxVars-3; n++ {
		vars, body := "var i; var v0; ", ""
		for i := 1; i < n; i++ {
			vars += fmt.Sprint("var v", i, "; ")
			body += fmt.Sprint("v", i-1, " = v", i, "; ")
		}
		body += fmt.Sprint("v", n-1, " = k; ")
		for _, loop := range []string{"while n { ", "for i 0 2 { "} {
			p := program(t, "fn f(k secret, n) -> v0 { "+vars+loop+body+"} }")
			want(t, fmt.Sprint(loop, " of ", n), p, "s")
			wantBegun(t, fmt.Sprint(loop, " of ", n), p, 1+(n+1)*n)
		}
	}
}
