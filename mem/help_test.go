package mem_test

import (
	"maps"
	"slices"
	"testing"

	"muffle/api"
	"muffle/mem"
)

// What the tests hold the package against is told here anew: a map that has a byte for each address that somebody has.

type regions = []api.Region

type lists = [][]uint64

func region(name string, addr, size int) api.Region {
	return api.Region{Name: name, Addr: addr, Size: size}
}

// several are regions in no order of their addresses: two touch, one begins at 0, one ends below the stack, one is as long as may be.
func several() regions {
	return regions{
		region("mid", 64, 3),
		{Name: "low", Addr: 0, Size: 2, Secret: true},
		region("end", 49144, 1),
		{Name: "behind_mid", Addr: 88, Size: 1, Secret: true},
		region("long", 8192, 512),
	}
}

// oddAddresses are far from what a memory has; some are not, if a part of their bits is lost.
func oddAddresses() []uint64 {
	l := []uint64{1 << 16, 1<<16 + 64, 1 << 31, 1 << 32, 1<<32 + 64, 1<<32 + 49152, 1<<63 - 8, 1<<63 - 1, 1 << 63, 1<<63 + 64, 1<<63 + 49152}
	for i := range uint64(20) {
		l = append(l, -i-1)
	}
	for _, r := range several() {
		l = append(l, -uint64(r.Addr), -uint64(8*r.Size), uint64(r.Addr)-1<<16, uint64(r.Addr)|1<<48)
	}
	return append(l, 1<<64-4096, 1<<64-16384, 1<<64-49152, 1<<64-65536)
}

type model struct {
	layout regions
	bytes  map[uint64]byte
}

// newModel is a memory of noughts.
func newModel(l regions) *model {
	m := &model{layout: slices.Clone(l), bytes: map[uint64]byte{}}
	for _, r := range l {
		for i := range 8 * r.Size {
			m.bytes[uint64(r.Addr+i)] = 0
		}
	}
	for addr := uint64(49152); addr < 65536; addr++ {
		m.bytes[addr] = 0
	}
	return m
}

func (m *model) copy() *model {
	return &model{layout: m.layout, bytes: maps.Clone(m.bytes)}
}

func (m *model) word(addr uint64) uint64 {
	x := uint64(0)
	for i := uint64(8); i > 0; i-- {
		x = 256*x + uint64(m.bytes[addr+i-1])
	}
	return x
}

func (m *model) setWord(addr, x uint64) {
	for i := range uint64(8) {
		m.bytes[addr+i] = byte(x % 256)
		x /= 256
	}
}

func (m *model) byteErrno(addr uint64) api.Errno {
	if _, is := m.bytes[addr]; !is {
		return api.ErrBounds
	}
	return api.OK
}

func (m *model) wordErrno(addr uint64) api.Errno {
	if addr%8 != 0 {
		return api.ErrArg
	}
	return m.byteErrno(addr)
}

func (m *model) words() lists {
	l := make(lists, len(m.layout))
	for i, r := range m.layout {
		for j := range r.Size {
			l[i] = append(l[i], m.word(uint64(r.Addr+8*j)))
		}
	}
	return l
}

func (m *model) stack() []byte {
	l := make([]byte, 16384)
	for i := range l {
		l[i] = m.bytes[49152+uint64(i)]
	}
	return l
}

func (m *model) place(addr uint64) (int, int) {
	for i, r := range m.layout {
		for j := range 8 * r.Size {
			if addr == uint64(r.Addr+j) {
				return i, j
			}
		}
	}
	if _, is := m.bytes[addr]; is {
		return -1, int(addr) - 49152
	}
	return -2, 0
}

// all are the words that are not 0, each behind its address.
func (m *model) all() [][2]uint64 {
	var l [][2]uint64
	for addr := uint64(0); addr < 65536; addr += 8 {
		if x := m.word(addr); x != 0 {
			l = append(l, [2]uint64{addr, x})
		}
	}
	return l
}

// allOf are what a memory goes over.
func allOf(m *mem.Mem) [][2]uint64 {
	var l [][2]uint64
	for addr, x := range m.All() {
		l = append(l, [2]uint64{addr, x})
	}
	return l
}

// wantLike asks that a memory is what the model is, as a whole.
func wantLike(t *testing.T, what string, m *mem.Mem, want *model) {
	t.Helper()
	if !slices.Equal(m.Layout(), want.layout) {
		t.Fatalf("%s: regions %v, not %v", what, m.Layout(), want.layout)
	}
	if got := m.Words(); !slices.EqualFunc(got, want.words(), slices.Equal) {
		t.Fatalf("%s: words %v, not %v", what, got, want.words())
	}
	if !slices.Equal(m.Stack(), want.stack()) {
		t.Fatalf("%s: another stack", what)
	}
	if got := allOf(m); !slices.Equal(got, want.all()) {
		t.Fatalf("%s: words that are not 0: %v, not %v", what, got, want.all())
	}
}

func wantNew(t *testing.T, l ...api.Region) *mem.Mem {
	t.Helper()
	m, e := mem.New(l...)
	if e != api.OK || m == nil {
		t.Fatalf("New(%v): %v", l, e)
	}
	return m
}

// sample is a memory that has something at the edges of all that it has, and its model.
func sample(t *testing.T) (*mem.Mem, *model) {
	t.Helper()
	words := newModel(several()).words()
	x := uint64(0x0807060504030201)
	for i, l := range words {
		for j := range l {
			if i < 4 || j == 0 || j == len(l)-1 {
				words[i][j] = x
				x = x<<8 | x>>56 + 1
			}
		}
	}
	m, e := mem.Of(several(), words)
	if e != api.OK || m == nil {
		t.Fatal(e)
	}
	want := newModel(several())
	for i, r := range want.layout {
		for j, x := range words[i] {
			want.setWord(uint64(r.Addr+8*j), x)
		}
	}
	for _, addr := range []uint64{49152, 49160, 65528} {
		if e := m.Store(addr, x+addr); e != api.OK {
			t.Fatal(addr, e)
		}
		want.setWord(addr, x+addr)
	}
	return m, want
}

// nones are the memories that there are not.
func nones() map[string]*mem.Mem {
	return map[string]*mem.Mem{"nil": nil, "zero": {}}
}
