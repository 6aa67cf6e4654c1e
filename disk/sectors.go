package disk

import (
	"slices"

	"signatory/api"
)

const (
	maxPending = 4096
	maxLeft    = 65536
	unlimited  = -1 // Left of a disk that performs all writes
	half       = api.SectorSize / 2
)

func validSectors(l [][]byte) bool {
	if len(l) < 1 || len(l) > api.MaxDisk {
		return false
	}
	for _, s := range l {
		if len(s) != api.SectorSize {
			return false
		}
	}
	return true
}

func validPending(d api.Disk) bool {
	if len(d.Pending) > maxPending {
		return false
	}
	for _, w := range d.Pending {
		if !has(d, w.At) || len(w.Data) != api.SectorSize {
			return false
		}
	}
	return true
}

// runs reports whether a disk is valid, and has not stopped.
func runs(d api.Disk) bool { return !d.Stopped && Check(d) == api.OK }

func has(d api.Disk, at int) bool { return at >= 0 && at < len(d.Sectors) }

// sectorOf returns a new sector that begins with the given bytes, and has zero bytes after them.
func sectorOf(b []byte) []byte {
	s := make([]byte, api.SectorSize)
	copy(s, b)
	return s
}

// performable returns the pending writes that a sync performs in full.
func performable(d api.Disk) []api.Write {
	n := len(d.Pending)
	if d.Left != unlimited {
		n = min(n, d.Left)
	}
	return d.Pending[:n:n]
}

// performed returns a new list of the sectors after some writes. Sectors are
// replaced, never changed, as other disks have them, too.
func performed(before [][]byte, l []api.Write) [][]byte {
	after := slices.Clone(before)
	for _, w := range l {
		after[w.At] = sectorOf(w.Data)
	}
	return after
}

// tear performs the first half of a write.
func tear(sectors [][]byte, w api.Write) {
	torn := sectorOf(sectors[w.At])
	copy(torn[:half], w.Data)
	sectors[w.At] = torn
}
