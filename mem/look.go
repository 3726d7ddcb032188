package mem

import (
	"iter"
	"slices"

	"muffle/api"
)

// Words are the words of each region.
func (m *Mem) Words() [][]uint64 {
	if m.isNone() {
		return nil
	}
	out := make([][]uint64, len(m.regions))
	for i, r := range m.regions {
		out[i] = slices.Clone(m.wordsOf(r))
	}
	return out
}

// Stack is the stack's bytes.
func (m *Mem) Stack() []byte {
	if m.isNone() {
		return nil
	}
	out := make([]byte, api.MaxAddr-api.StackLow)
	for i := range out {
		out[i] = m.byteAt(api.StackLow + uint64(i))
	}
	return out
}

// Layout is the regions.
func (m *Mem) Layout() []api.Region {
	if m.isNone() {
		return nil
	}
	return slices.Clone(m.regions)
}

// Place is the number of the region that has an address, or -1 of the stack, and at which of its bytes; -2: nobody has it.
func (m *Mem) Place(addr uint64) (int, int) {
	if m.isNone() {
		return nobody, 0
	}
	return m.where(addr)
}

// Address is where a word of a region lies, if there is one.
func (m *Mem) Address(name string, i int) (uint64, bool) {
	if m.isNone() {
		return 0, false
	}
	for _, r := range m.regions {
		if r.Name == name && i >= 0 && i < r.Size {
			return uint64(r.Addr + i*wordBytes), true
		}
	}
	return 0, false
}

// All goes over the words that are not 0 now, by rising addresses.
func (m *Mem) All() iter.Seq2[uint64, uint64] {
	found := m.filled()
	return func(yield func(addr, x uint64) bool) {
		for _, w := range found {
			if !yield(w.addr, w.x) {
				return
			}
		}
	}
}

type placed struct{ addr, x uint64 }

// filled are the words that are not 0, by rising addresses.
func (m *Mem) filled() []placed {
	if m.isNone() {
		return nil
	}
	var out []placed
	for i, x := range m.words[:] {
		if x != 0 {
			out = append(out, placed{uint64(i) * wordBytes, x})
		}
	}
	return out
}
