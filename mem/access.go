package mem

import "muffle/api"

// Load is the word at an address.
func (m *Mem) Load(addr uint64) (uint64, api.Errno) {
	if errno := m.checkWord(addr); errno != api.OK {
		return 0, errno
	}
	return m.words[addr/wordBytes], api.OK
}

// Store puts a word at an address.
func (m *Mem) Store(addr, x uint64) api.Errno {
	if errno := m.checkWord(addr); errno != api.OK {
		return errno
	}
	m.words[addr/wordBytes] = x
	return api.OK
}

// LoadByte is the byte at an address.
func (m *Mem) LoadByte(addr uint64) (byte, api.Errno) {
	if errno := m.checkByte(addr); errno != api.OK {
		return 0, errno
	}
	return m.byteAt(addr), api.OK
}

// StoreByte puts a byte at an address.
func (m *Mem) StoreByte(addr uint64, x byte) api.Errno {
	if errno := m.checkByte(addr); errno != api.OK {
		return errno
	}
	w, by := &m.words[addr/wordBytes], shiftOf(addr)
	*w = *w&^(0xff<<by) | uint64(x)<<by
	return api.OK
}

// checkWord is why a word is refused.
func (m *Mem) checkWord(addr uint64) api.Errno {
	if m.isNone() {
		return api.ErrNil
	}
	if addr%wordBytes != 0 {
		return api.ErrArg
	}
	// All that has bytes begins and ends at multiples of 8: who has the first byte has them all.
	return m.checkByte(addr)
}

// checkByte is why a byte is refused.
func (m *Mem) checkByte(addr uint64) api.Errno {
	if m.isNone() {
		return api.ErrNil
	}
	if owner, _ := m.where(addr); owner == nobody {
		return api.ErrBounds
	}
	return api.OK
}

// byteAt is the byte at an address that the memory has.
func (m *Mem) byteAt(addr uint64) byte {
	return byte(m.words[addr/wordBytes] >> shiftOf(addr))
}

// shiftOf is by how many bits a byte lies above its word's lowest one.
func shiftOf(addr uint64) uint64 {
	return addr % wordBytes * 8
}
