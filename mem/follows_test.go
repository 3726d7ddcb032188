package mem_test

import (
	"math/rand"
	"slices"
	"testing"

	"muffle/api"
	"muffle/mem"
)

// someRegions are regions that may be, in no order of their addresses; the same ones in each run.
func someRegions(r *rand.Rand) regions {
	var l regions
	at := 8 * r.Intn(20)
	for i := range r.Intn(17) {
		size := 1 + r.Intn(1+r.Intn(300))
		if at+8*size > 49152 {
			break
		}
		l = append(l, api.Region{Name: "r" + string(rune('a'+i)), Addr: at, Size: size, Secret: r.Intn(2) == 0})
		at += 8*size + 8*r.Intn(3)
	}
	r.Shuffle(len(l), func(i, j int) { l[i], l[j] = l[j], l[i] })
	return l
}

// someAddress is mostly one that the memory has, or near by.
func someAddress(r *rand.Rand, l regions) uint64 {
	addr := uint64(49152 + r.Intn(64))
	switch n := r.Intn(20); {
	case n == 0:
		return r.Uint64()
	case n == 1:
		addr = uint64(65536 - 32 + r.Intn(64))
	case n < 16 && len(l) > 0:
		x := l[r.Intn(len(l))]
		addr = uint64(x.Addr + r.Intn(8*x.Size+16) - 8)
	}
	if r.Intn(2) == 0 {
		addr -= addr % 8
	}
	return addr
}

// P3.5: what is stored is loaded, and nothing else changes: whatever is done, a memory is what the model is.
func TestAnyDeeds(t *testing.T) {
	r := rand.New(rand.NewSource(1))
	for range 60 {
		l := someRegions(r)
		m, want := wantNew(t, l...), newModel(l)
		for range 400 {
			addr, x := someAddress(r, l), r.Uint64()>>uint(r.Intn(64))
			switch r.Intn(5) {
			case 0, 1:
				if e := m.Store(addr, x); e != want.wordErrno(addr) {
					t.Fatalf("Store(%d): %v", addr, e)
				}
				if want.wordErrno(addr) == api.OK {
					want.setWord(addr, x)
				}
			case 2, 3:
				if e := m.StoreByte(addr, byte(x)); e != want.byteErrno(addr) {
					t.Fatalf("StoreByte(%d): %v", addr, e)
				}
				if want.byteErrno(addr) == api.OK {
					want.bytes[addr] = byte(x)
				}
			case 4:
				if got, e := m.Load(addr); e != want.wordErrno(addr) || e == api.OK && got != want.word(addr) {
					t.Fatalf("Load(%d): %d, %v", addr, got, e)
				}
			}
			if got, e := m.LoadByte(addr); e != want.byteErrno(addr) || got != want.bytes[addr] {
				t.Fatalf("LoadByte(%d): %d, %v", addr, got, e)
			}
			i, at := m.Place(addr)
			if j, at2 := want.place(addr); i != j || at != at2 {
				t.Fatalf("Place(%d): %d, %d", addr, i, at)
			}
		}
		wantLike(t, "behind all deeds", m, want)
		again, e := mem.Of(m.Layout(), m.Words())
		for i, b := range m.Stack() {
			again.StoreByte(49152+uint64(i), b)
		}
		if e != api.OK || !mem.Same(m, again) {
			t.Fatalf("of what it tells it is not made again: %v", e)
		}
		again = wantNew(t, l...)
		for addr, x := range m.All() {
			if e := again.Store(addr, x); e != api.OK {
				t.Fatalf("All tells of %d: %v", addr, e)
			}
		}
		if !mem.Same(m, again) {
			t.Fatal("of all words that are not 0 it is not made again")
		}
	}
}

// P3.5: of each word and byte that is stored nothing else changes.
func TestNothingElse(t *testing.T) {
	m, want := sample(t)
	for _, addr := range []uint64{0, 8, 64, 72, 80, 88, 8192, 8192 + 4088, 49144, 49152, 49160, 65528} {
		for _, x := range []uint64{0, 1, ^uint64(0), 1 << 63, 0x0123456789abcdef} {
			if e := m.Store(addr, x); e != api.OK {
				t.Fatal(addr, e)
			}
			want.setWord(addr, x)
			wantLike(t, "behind a word", m, want)
		}
		for i := range uint64(8) {
			for _, x := range []byte{255, 0, byte(17 * i)} {
				if e := m.StoreByte(addr+i, x); e != api.OK {
					t.Fatal(addr+i, e)
				}
				want.bytes[addr+i] = x
				wantLike(t, "behind a byte", m, want)
			}
		}
	}
}

// P3.5: a word's bytes are the lowest first.
func TestLowestFirst(t *testing.T) {
	m := wantNew(t, region("a", 16, 1))
	for _, addr := range []uint64{16, 49152, 65528} {
		m.Store(addr, 0x0807060504030201)
		for i := range uint64(8) {
			if b, e := m.LoadByte(addr + i); b != byte(i+1) || e != api.OK {
				t.Errorf("byte %d of the word at %d: %d, %v", i, addr, b, e)
			}
			m.StoreByte(addr+i, byte(0xf8-i))
		}
		if x, e := m.Load(addr); x != 0xf1f2f3f4f5f6f7f8 || e != api.OK {
			t.Errorf("the word at %d: %x, %v", addr, x, e)
		}
	}
	if s := m.Stack(); !slices.Equal(s[:9], []byte{0xf8, 0xf7, 0xf6, 0xf5, 0xf4, 0xf3, 0xf2, 0xf1, 0}) || m.Words()[0][0] != 0xf1f2f3f4f5f6f7f8 {
		t.Error("Stack", s[:9], "Words", m.Words())
	}
}
