package mem

import "muffle/api"

// Who has an address, if it is no region: those have their numbers.
const (
	stack  = -1
	nobody = -2
)

// locator tells who has an address, and at which of its bytes.
type locator func(addr uint64) (owner, place int)

// May tells whether regions may be.
func May(l ...api.Region) bool {
	if len(l) > api.MaxRegions {
		return false
	}
	for _, r := range l {
		if !mayBe(r) {
			return false
		}
	}
	return !anyMeet(l)
}

// mayBe tells whether a region may be by itself.
func mayBe(r api.Region) bool {
	if len(r.Name) < 1 || len(r.Name) > api.MaxName || r.Size < 1 || r.Size > api.MaxWords {
		return false
	}
	// What is taken from StackLow is small; an end that is reckoned of any Addr could be too great for an int.
	return r.Addr >= 0 && r.Addr%wordBytes == 0 && r.Addr <= api.StackLow-bytesOf(r)
}

// anyMeet tells whether two of the regions, of which each may be, have the name or a byte in common.
func anyMeet(l []api.Region) bool {
	met := false
search:
	for i, a := range l {
		for _, b := range l[:i] {
			if a.Name == b.Name || a.Addr < b.Addr+bytesOf(b) && b.Addr < a.Addr+bytesOf(a) {
				met = true
				break search
			}
		}
	}
	return met
}

func bytesOf(r api.Region) int {
	return r.Size * wordBytes
}

// locate makes the locator of a memory with these regions.
func locate(l []api.Region) locator {
	return func(addr uint64) (int, int) {
		if addr >= api.StackLow && addr < api.MaxAddr {
			return stack, int(addr - api.StackLow)
		}
		for i := range l {
			// Below the region this is a great number.
			place := addr - uint64(l[i].Addr)
			if place < uint64(bytesOf(l[i])) {
				return i, int(place)
			}
		}
		return nobody, 0
	}
}
