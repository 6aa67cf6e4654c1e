package journal

import (
	"iter"

	"signatory/api"
)

// The places of what a sector contains.
const (
	firstAt  = 0
	sumAt    = 4
	numberAt = 8
	kindAt   = 10
	countAt  = 11
	dataAt   = 12
	secondAt = 124
	payload  = secondAt - dataAt
)

// What byte 10 of a sector consists of.
const (
	beginsBit = 1
	endsBit   = 2
)

// maxGeneration is the greatest generation that a sector has space for.
const maxGeneration = 1<<32 - 1

// polynomial is what the checksum is xored with.
const polynomial uint32 = 0xEDB88320

// piece is what lies in one sector of a record.
type piece struct {
	begins, ends bool
	data         []byte
}

// occupied is how many sectors records occupy.
func occupied(records ...[]byte) (n int) {
	for _, b := range records {
		n += max(1, (len(b)+payload-1)/payload)
	}
	return n
}

// piecesOf yields the pieces of a record, in order.
func piecesOf(b []byte) iter.Seq[piece] {
	return func(yield func(piece) bool) {
		n := occupied(b)
		for i := range n {
			data := b[i*payload : min(len(b), (i+1)*payload)]
			if !yield(piece{begins: i == 0, ends: i == n-1, data: data}) {
				return
			}
		}
	}
}

// sectorOf is the sector with a number that contains a piece, which has at most 112 bytes.
func sectorOf(p piece, number int, generation uint32) (s [api.SectorSize]byte) {
	g := bytesOf(generation)
	copy(s[firstAt:], g[:])
	copy(s[secondAt:], g[:])
	s[numberAt], s[numberAt+1] = byte(number>>8), byte(number)
	if p.begins {
		s[kindAt] |= beginsBit
	}
	if p.ends {
		s[kindAt] |= endsBit
	}
	s[countAt] = byte(len(p.data))
	copy(s[dataAt:], p.data)
	sum := bytesOf(checksum(s[numberAt:secondAt]))
	copy(s[sumAt:], sum[:])
	return s
}

// read returns the piece in a sector, and its generation, if the sector is good for a number.
func read(s []byte, number int) (p piece, generation uint32, ok bool) {
	n := int(s[countAt])
	if n > payload {
		return piece{}, 0, false
	}
	p.begins, p.ends = s[kindAt]&beginsBit != 0, s[kindAt]&endsBit != 0
	p.data = s[dataAt : dataAt+n]
	generation = numberIn(s[firstAt:])
	whole := (p.ends || n == payload) && (p.begins || n > 0)
	// What is not read here must be as it would be written: it is determined by what is read.
	if generation == 0 || !whole || sectorOf(p, number, generation) != [api.SectorSize]byte(s) {
		return piece{}, 0, false
	}
	return p, generation, true
}

// greatestGeneration is the greatest number that sectors have at the places of generations.
func greatestGeneration(sectors [][]byte) (g int) {
	for _, s := range sectors {
		g = max(g, int(numberIn(s[firstAt:])), int(numberIn(s[secondAt:])))
	}
	return g
}

// bytesOf is a number with its most significant byte first.
func bytesOf(n uint32) [4]byte {
	return [4]byte{byte(n >> 24), byte(n >> 16), byte(n >> 8), byte(n)}
}

// numberIn is the number that the first four bytes represent.
func numberIn(b []byte) uint32 {
	return uint32(b[0])<<24 | uint32(b[1])<<16 | uint32(b[2])<<8 | uint32(b[3])
}

// checksum is made bit by bit: a table of what eight steps do would be longer than the loop.
func checksum(b []byte) uint32 {
	n := ^uint32(0)
	for _, c := range b {
		n ^= uint32(c)
		for range 8 {
			out := n & 1
			n = n>>1 ^ polynomial*out
		}
	}
	return ^n
}
