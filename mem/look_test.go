package mem_test

import (
	"math"
	"slices"
	"testing"

	"muffle/mem"
)

// P3.3: Words, Stack and Layout.
func TestLooking(t *testing.T) {
	m, want := sample(t)
	wantLike(t, "sample", m, want)
	if got := m.Words(); len(got) != 5 || len(got[0]) != 3 || len(got[4]) != 512 || got[0][0] != 0x0807060504030201 {
		t.Error("Words", got)
	}
	if s := m.Stack(); len(s) != 16384 {
		t.Error("Stack has", len(s))
	}
	m.StoreByte(49152, 3)
	m.StoreByte(65535, 4)
	if s := m.Stack(); s[0] != 3 || s[16383] != 4 {
		t.Error("Stack", s[0], s[16383])
	}
	empty := wantNew(t)
	if len(empty.Words()) != 0 || len(empty.Layout()) != 0 || !slices.Equal(empty.Stack(), make([]byte, 16384)) {
		t.Error("a memory without regions")
	}
}

// P3.3: what is answered is new memory, and no two lists of it share any.
func TestLookingIsNew(t *testing.T) {
	m, want := sample(t)
	words, stack, layout := m.Words(), m.Stack(), m.Layout()
	for i := range words {
		clear(words[i])
		_ = append(words[i], 77, 78)
	}
	clear(stack)
	clear(layout)
	wantLike(t, "behind what was done to answers", m, want)
	if x, e := m.Load(64); x != want.word(64) || e != 0 {
		t.Error("Load", x, e)
	}
	words = m.Words()
	for i := range words {
		grown := append(words[i], 79)
		grown[0] = 80
	}
	for i, l := range m.Words() {
		if !slices.Equal(words[i][1:], l[1:]) {
			t.Errorf("a list that grows changes list %d", i)
		}
	}
	// Nor does what was answered change with the memory.
	words, stack, layout = m.Words(), m.Stack(), m.Layout()
	for addr := range uint64(65536) {
		m.StoreByte(addr, 0xee)
	}
	if !slices.EqualFunc(words, want.words(), slices.Equal) || !slices.Equal(stack, want.stack()) || !slices.Equal(layout, want.layout) {
		t.Error("answers change behind the call")
	}
}

// P3.3: Place, of each address.
func TestPlace(t *testing.T) {
	m, want := sample(t)
	places := map[uint64][2]int{}
	for addr := range want.bytes {
		places[addr] = [2]int{-1, int(addr) - 49152}
	}
	for i, r := range want.layout {
		for j := range 8 * r.Size {
			places[uint64(r.Addr+j)] = [2]int{i, j}
		}
	}
	eachAddress(func(addr uint64) {
		wantAt, is := places[addr]
		if !is {
			wantAt = [2]int{-2, 0}
		}
		if i, at := m.Place(addr); i != wantAt[0] || at != wantAt[1] {
			t.Errorf("Place(%d): %d, %d, not %v", addr, i, at, wantAt)
		}
	})
	for addr, wantAt := range map[uint64][2]int{64: {0, 0}, 87: {0, 23}, 88: {3, 0}, 0: {1, 0}, 15: {1, 15}, 16: {-2, 0}, 49143: {-2, 0}, 49144: {2, 0}, 49151: {2, 7}, 49152: {-1, 0}, 65535: {-1, 16383}, 65536: {-2, 0}, 8192: {4, 0}, 12287: {4, 4095}, 12288: {-2, 0}, 1 << 63: {-2, 0}, ^uint64(0): {-2, 0}} {
		if i, at := m.Place(addr); i != wantAt[0] || at != wantAt[1] {
			t.Errorf("Place(%d): %d, %d, not %v", addr, i, at, wantAt)
		}
	}
}

// P3.3: Address, of each word of each region, and of what there is not.
func TestAddress(t *testing.T) {
	m, want := sample(t)
	for i, r := range want.layout {
		for j := range r.Size {
			addr, is := m.Address(r.Name, j)
			if !is || addr != uint64(r.Addr+8*j) {
				t.Errorf("Address(%s, %d): %d, %v", r.Name, j, addr, is)
			}
			if k, at := m.Place(addr); k != i || at != 8*j {
				t.Errorf("Place of Address(%s, %d): %d, %d", r.Name, j, k, at)
			}
		}
		for _, j := range []int{-1, -8, r.Size, r.Size + 1, 1 << 61, 1<<61 + 1, math.MaxInt, math.MinInt, math.MinInt + r.Size} {
			if addr, is := m.Address(r.Name, j); is || addr != 0 {
				t.Errorf("Address(%s, %d): %d, %v", r.Name, j, addr, is)
			}
		}
	}
	for _, name := range []string{"", "mi", "midd", "MID", "none", "stack", "low ", "\x00"} {
		if addr, is := m.Address(name, 0); is || addr != 0 {
			t.Errorf("Address(%q, 0): %d, %v", name, addr, is)
		}
	}
	if addr, is := wantNew(t).Address("", 0); is || addr != 0 {
		t.Error("an address without regions")
	}
}

// P3.3: of no memory there is nothing.
func TestLookingAtNone(t *testing.T) {
	for what, m := range nones() {
		if len(m.Words()) != 0 || len(m.Stack()) != 0 || len(m.Layout()) != 0 {
			t.Errorf("%s: has something", what)
		}
		for _, addr := range []uint64{0, 8, 49152, 65535, 65536, ^uint64(0)} {
			if i, at := m.Place(addr); i != -2 || at != 0 {
				t.Errorf("%s: Place(%d): %d, %d", what, addr, i, at)
			}
		}
		for _, name := range []string{"", "mid"} {
			if addr, is := m.Address(name, 0); is || addr != 0 {
				t.Errorf("%s: Address(%q, 0): %d, %v", what, name, addr, is)
			}
		}
	}
}

// P3.1 to P3.3: the chapter's examples.
func TestExamples(t *testing.T) {
	m := wantNew(t, region("key", 0, 2), region("out", 64, 1))
	if e := m.Store(8, 1); e != 0 {
		t.Error(e)
	}
	if x, e := m.LoadByte(8); x != 1 || e != 0 {
		t.Error(x, e)
	}
	for addr, want := range map[uint64]int{4: 2, 16: 14, 65528: 0, 65536: 14} {
		if x, e := m.Load(addr); x != 0 || int(e) != want {
			t.Errorf("Load(%d): %d, %v", addr, x, e)
		}
	}
	for addr, want := range map[uint64][2]int{9: {0, 9}, 49153: {-1, 1}, 20: {-2, 0}} {
		if i, at := m.Place(addr); i != want[0] || at != want[1] {
			t.Errorf("Place(%d): %d, %d", addr, i, at)
		}
	}
	if addr, is := m.Address("out", 0); addr != 64 || !is {
		t.Error(addr, is)
	}
	if addr, is := m.Address("out", 1); addr != 0 || is {
		t.Error(addr, is)
	}
	if x, e := mem.New(region("a", 0, 1), region("b", 0, 1)); x != nil || int(e) != 2 {
		t.Error("two at 0:", e)
	}
	if x, e := mem.New(region("a", 4, 1)); x != nil || int(e) != 2 {
		t.Error("one at 4:", e)
	}
}
