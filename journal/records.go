package journal

import (
	"iter"
	"slices"
)

// recordsOn yields the records on a disk, in order.
func recordsOn(sectors [][]byte) iter.Seq[[]byte] {
	return func(yield func([]byte) bool) {
		at, least := 0, uint32(0)
		for at < len(sectors) {
			b, generation, ok := recordAt(sectors, at)
			if !ok || generation < least || !yield(b) {
				return
			}
			at, least = at+occupied(b), generation
		}
	}
}

// recordAt returns the record that begins at a sector, and its generation.
func recordAt(sectors [][]byte, at int) (b []byte, generation uint32, ok bool) {
	p, generation, ok := read(sectors[at], at)
	if !ok || !p.begins {
		return nil, 0, false
	}
	b = slices.Clone(p.data)
	if p.ends {
		return b, generation, true
	}
continued:
	for k := at + 1; k < len(sectors); k++ {
		p, g, ok := read(sectors[k], k)
		switch {
		case !ok || p.begins || g != generation:
			break continued
		case p.ends:
			return append(b, p.data...), generation, true
		}
		b = append(b, p.data...)
	}
	return nil, 0, false
}
