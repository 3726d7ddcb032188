package mem_test

import (
	"slices"
	"testing"

	"muffle/api"
	"muffle/mem"
)

// P3.4: a copy is the same, and both go on apart.
func TestCopy(t *testing.T) {
	m, want := sample(t)
	c := m.Copy()
	if c == m || !mem.Same(c, m) {
		t.Fatal("a copy is another one, and the same")
	}
	wantLike(t, "a copy", c, want)
	eachAddress(func(addr uint64) {
		i, at := m.Place(addr)
		if j, at2 := c.Place(addr); i != j || at != at2 {
			t.Errorf("Place(%d) of a copy: %d, %d", addr, j, at2)
		}
	})
	other := want.copy()
	for _, addr := range []uint64{0, 64, 88, 49144, 49152, 65528} {
		if e := c.Store(addr, addr+1); e != api.OK {
			t.Fatal(addr, e)
		}
		other.setWord(addr, addr+1)
		if e := m.StoreByte(addr+7, 0x55); e != api.OK {
			t.Fatal(addr, e)
		}
		want.bytes[addr+7] = 0x55
	}
	wantLike(t, "what was copied", m, want)
	wantLike(t, "the copy", c, other)
	cc := c.Copy()
	m.Store(8, 1)
	c.Store(8, 2)
	wantLike(t, "a copy's copy", cc, other)
	if empty := wantNew(t).Copy(); empty == nil || !mem.Same(empty, wantNew(t)) {
		t.Error("a copy of a memory without regions")
	}
}

// P3.4: no memory has no copy.
func TestCopyOfNone(t *testing.T) {
	for what, m := range nones() {
		if m.Copy() != nil {
			t.Errorf("%s: has a copy", what)
		}
	}
}

// P3.4: All, by rising addresses, whatever the order of the regions.
func TestAll(t *testing.T) {
	m, want := sample(t)
	if got := allOf(m); !slices.Equal(got, want.all()) {
		t.Errorf("%v, not %v", got, want.all())
	}
	m = wantNew(t, region("b", 64, 2), region("a", 0, 1))
	if got := allOf(m); len(got) != 0 {
		t.Error("noughts:", got)
	}
	for _, x := range []struct {
		addr uint64
		x    byte
	}{{65535, 128}, {49152, 1}, {79, 2}, {64, 3}, {7, 4}} {
		m.StoreByte(x.addr, x.x)
	}
	wantAll := [][2]uint64{{0, 4 << 56}, {64, 3}, {72, 2 << 56}, {49152, 1}, {65528, 128 << 56}}
	if got := allOf(m); !slices.Equal(got, wantAll) {
		t.Errorf("%v, not %v", got, wantAll)
	}
	m.Store(64, 0)
	if got := allOf(m); !slices.Equal(got, slices.Delete(wantAll, 1, 2)) {
		t.Error("a word that is 0 again:", got)
	}
}

// P3.4: All of a memory that is full.
func TestAllOfMuch(t *testing.T) {
	m, want := sample(t)
	eachAddress(func(addr uint64) {
		if m.Store(addr, ^addr) == api.OK {
			want.setWord(addr, ^addr)
		}
	})
	if got := allOf(m); len(got) != 2048+519 || !slices.Equal(got, want.all()) {
		t.Errorf("%d words, not %d", len(got), len(want.all()))
	}
}

// P3.4: All is left at any time, and gone through again, in full.
func TestAllLeft(t *testing.T) {
	m, want := sample(t)
	all, seq := want.all(), m.All()
	for leave := range len(all) + 1 {
		var got [][2]uint64
		for addr, x := range seq {
			got = append(got, [2]uint64{addr, x})
			if len(got) == leave {
				break
			}
		}
		if leave == 0 {
			leave = len(all)
		}
		if !slices.Equal(got, all[:leave]) {
			t.Errorf("left behind %d: %v", leave, got)
		}
	}
	calls := 0
	seq(func(uint64, uint64) bool {
		calls++
		return false
	})
	if calls != 1 {
		t.Error("goes on behind a false:", calls)
	}
	// Once within the other.
	n := 0
	for a := range seq {
		for b := range seq {
			if a == b {
				n++
				break
			}
		}
	}
	if n != len(all) {
		t.Error("once within the other:", n)
	}
}

// P3.4: All tells the words as they were when it was called.
func TestAllIsOfItsTime(t *testing.T) {
	m, want := sample(t)
	seq, all := m.All(), want.all()
	empty := wantNew(t)
	none := empty.All()
	empty.Store(49152, 1)
	for range none {
		t.Error("what was 0 is told")
	}
	var got [][2]uint64
	for addr, x := range seq {
		if len(got) == 0 {
			for a := uint64(0); a < 65536; a += 8 {
				m.Store(a, 5)
			}
		}
		got = append(got, [2]uint64{addr, x})
	}
	if !slices.Equal(got, all) {
		t.Error("changed on the way:", got)
	}
	for a := uint64(0); a < 65536; a += 8 {
		m.Store(a, 0)
	}
	got = nil
	for addr, x := range seq {
		got = append(got, [2]uint64{addr, x})
	}
	if !slices.Equal(got, all) || len(allOf(m)) != 0 {
		t.Error("changed behind the call:", got)
	}
}

// P3.4: All of no memory may be gone through, too.
func TestAllOfNone(t *testing.T) {
	for what, m := range nones() {
		if got := allOf(m); len(got) != 0 {
			t.Errorf("%s: %v", what, got)
		}
	}
}

func wantSame(t *testing.T, what string, a, b *mem.Mem, want bool) {
	t.Helper()
	if mem.Same(a, b) != want || mem.Same(b, a) != want {
		t.Errorf("%s: the same: not %v", what, want)
	}
}

// P3.4: Same, of regions.
func TestSameRegions(t *testing.T) {
	l := several()
	m := wantNew(t, l...)
	wantSame(t, "itself", m, m, true)
	wantSame(t, "another one", m, wantNew(t, several()...), true)
	for what, change := range map[string]func(l regions) regions{
		"a name":       func(l regions) regions { l[0].Name = "mie"; return l },
		"an address":   func(l regions) regions { l[0].Addr -= 8; return l },
		"a size":       func(l regions) regions { l[4].Size--; return l },
		"a secret":     func(l regions) regions { l[0].Secret = true; return l },
		"the last one": func(l regions) regions { l[4].Secret = true; return l },
		"the order":    func(l regions) regions { l[0], l[1] = l[1], l[0]; return l },
		"one less":     func(l regions) regions { return l[:4] },
		"one more":     func(l regions) regions { return append(l, region("more", 1024, 1)) },
		"none":         func(l regions) regions { return nil },
	} {
		wantSame(t, what, m, wantNew(t, change(several())...), false)
	}
	wantSame(t, "two without regions", wantNew(t), wantNew(t), true)
}

// P3.4: Same, of bytes: each one of them counts.
func TestSameBytes(t *testing.T) {
	m, want := sample(t)
	c := m.Copy()
	for addr := range uint64(65536) {
		was, is := want.bytes[addr]
		if !is {
			continue
		}
		c.StoreByte(addr, was^0x10)
		if mem.Same(m, c) || mem.Same(c, m) {
			t.Errorf("another byte at %d, and the same", addr)
		}
		c.StoreByte(addr, was)
	}
	wantSame(t, "all bytes back", m, c, true)
	other, e := mem.Of(several(), m.Words())
	if e != api.OK {
		t.Fatal(e)
	}
	wantSame(t, "the same regions' words, another stack", m, other, false)
}

// P3.4: Same, of none: nil and zero are one, and no memory that was made.
func TestSameNone(t *testing.T) {
	for what, a := range nones() {
		for what2, b := range nones() {
			wantSame(t, what+" and "+what2, a, b, true)
		}
		wantSame(t, what+" and noughts", a, wantNew(t), false)
		wantSame(t, what+" and regions", a, wantNew(t, several()...), false)
	}
}
