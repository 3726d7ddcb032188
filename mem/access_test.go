package mem_test

import (
	"testing"

	"muffle/api"
	"muffle/mem"
)

// eachAddress shows all addresses that a memory could have, some behind them, and odd ones.
func eachAddress(see func(addr uint64)) {
	for addr := range uint64(65536 + 64) {
		see(addr)
	}
	for _, addr := range oddAddresses() {
		see(addr)
	}
}

// P3.2: Load and LoadByte, of each address.
func TestLoad(t *testing.T) {
	m, want := sample(t)
	eachAddress(func(addr uint64) {
		x, e := m.Load(addr)
		if wantX := want.word(addr); e != want.wordErrno(addr) || e == api.OK && x != wantX || e != api.OK && x != 0 {
			t.Errorf("Load(%d): %d, %v; not %d, %v", addr, x, e, wantX, want.wordErrno(addr))
		}
		b, e := m.LoadByte(addr)
		if e != want.byteErrno(addr) || b != want.bytes[addr] {
			t.Errorf("LoadByte(%d): %d, %v; not %d, %v", addr, b, e, want.bytes[addr], want.byteErrno(addr))
		}
	})
	wantLike(t, "behind all loads", m, want)
}

// P3.2: Store and StoreByte, of each address.
func TestStore(t *testing.T) {
	m := wantNew(t, several()...)
	want := newModel(several())
	eachAddress(func(addr uint64) {
		x := addr*0x9e3779b97f4a7c15 + 1
		e := m.Store(addr, x)
		if e != want.wordErrno(addr) {
			t.Errorf("Store(%d): %v, not %v", addr, e, want.wordErrno(addr))
		}
		if want.wordErrno(addr) == api.OK {
			want.setWord(addr, x)
		}
	})
	wantLike(t, "behind all words", m, want)
	eachAddress(func(addr uint64) {
		x := byte(addr*0x9e3779b97f4a7c15>>56) | 1
		e := m.StoreByte(addr, x)
		if e != want.byteErrno(addr) {
			t.Errorf("StoreByte(%d): %v, not %v", addr, e, want.byteErrno(addr))
		}
		if e == api.OK {
			want.bytes[addr] = x
		}
	})
	wantLike(t, "behind all bytes", m, want)
}

// P3.2: what is refused changes nothing.
func TestRefusedStores(t *testing.T) {
	m, want := sample(t)
	eachAddress(func(addr uint64) {
		if want.wordErrno(addr) != api.OK {
			m.Store(addr, ^uint64(0))
		}
		if want.byteErrno(addr) != api.OK {
			m.StoreByte(addr, 255)
		}
	})
	wantLike(t, "behind what is refused", m, want)
}

// P3.2: the first and the last word and byte of all that there is, and what lies behind; ErrArg comes ahead of ErrBounds.
func TestEdges(t *testing.T) {
	m := wantNew(t, region("key", 0, 2), region("long", 8192, 512), region("last", 49144, 1))
	const ok, arg, bounds = api.OK, api.ErrArg, api.ErrBounds
	for addr, want := range map[uint64]struct{ word, byte api.Errno }{
		0: {ok, ok}, 8: {ok, ok}, 15: {arg, ok}, 16: {bounds, bounds}, 20: {arg, bounds}, 1: {arg, ok}, 4: {arg, ok},
		8184: {bounds, bounds}, 8191: {arg, bounds}, 8192: {ok, ok}, 8192 + 4088: {ok, ok}, 8192 + 4095: {arg, ok}, 8192 + 4096: {bounds, bounds},
		49136: {bounds, bounds}, 49143: {arg, bounds}, 49144: {ok, ok}, 49151: {arg, ok}, 49152: {ok, ok}, 49153: {arg, ok},
		65528: {ok, ok}, 65535: {arg, ok}, 65536: {bounds, bounds}, 65537: {arg, bounds},
		1 << 63: {bounds, bounds}, 1<<63 + 1: {arg, bounds}, 1<<64 - 8: {bounds, bounds}, 1<<64 - 1: {arg, bounds},
	} {
		if _, e := m.Load(addr); e != want.word {
			t.Errorf("Load(%d): %v, not %v", addr, e, want.word)
		}
		if e := m.Store(addr, 1); e != want.word {
			t.Errorf("Store(%d): %v, not %v", addr, e, want.word)
		}
		if _, e := m.LoadByte(addr); e != want.byte {
			t.Errorf("LoadByte(%d): %v, not %v", addr, e, want.byte)
		}
		if e := m.StoreByte(addr, 1); e != want.byte {
			t.Errorf("StoreByte(%d): %v, not %v", addr, e, want.byte)
		}
	}
}

// P3.2: no memory is told ahead of all, and stays none.
func TestAccessOfNone(t *testing.T) {
	for what, m := range nones() {
		for _, addr := range []uint64{0, 4, 8, 49151, 49152, 49153, 65535, 65536, 1 << 63, ^uint64(0)} {
			if x, e := m.Load(addr); x != 0 || e != api.ErrNil {
				t.Errorf("%s: Load(%d): %d, %v", what, addr, x, e)
			}
			if e := m.Store(addr, 1); e != api.ErrNil {
				t.Errorf("%s: Store(%d): %v", what, addr, e)
			}
			if x, e := m.LoadByte(addr); x != 0 || e != api.ErrNil {
				t.Errorf("%s: LoadByte(%d): %d, %v", what, addr, x, e)
			}
			if e := m.StoreByte(addr, 1); e != api.ErrNil {
				t.Errorf("%s: StoreByte(%d): %v", what, addr, e)
			}
		}
		if !mem.Same(m, nil) {
			t.Errorf("%s: is something now", what)
		}
	}
}
