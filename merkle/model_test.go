package merkle

import (
	"crypto/sha256"
	"math/rand"
	"slices"
	"testing"

	"signatory/api"
)

// someBytes makes n bytes, by a fixed seed.
func someBytes(n int) []byte {
	b := make([]byte, n)
	rand.New(rand.NewSource(int64(n))).Read(b)
	return b
}

// someDigests makes n digests, by a fixed seed; the first ones are the same for all n.
func someDigests(n int) []api.Digest {
	r := rand.New(rand.NewSource(7))
	l := make([]api.Digest, n)
	for i := range l {
		r.Read(l[i][:])
	}
	return l
}

// someLeaves makes n different leaves of 2 to 141 bytes, among them the lengths around a block.
func someLeaves(n int) (l [][]byte) {
	for i := range n {
		l = append(l, append([]byte{byte(i >> 8), byte(i)}, make([]byte, i%140)...))
	}
	return l
}

// sum is the hash that the tests expect: that of Go's library.
func sum(b []byte) api.Digest { return sha256.Sum256(b) }

// expectText is the text under a tag that the tests expect.
func expectText(tag string, parts ...[]byte) []byte {
	t := sum([]byte(tag))
	return slices.Concat(t[:], slices.Concat(parts...))
}

func expectLeaf(leaf []byte) api.Digest { return sum(expectText("leaf", leaf)) }

func expectNode(a, b api.Digest) api.Digest { return sum(expectText("node", a[:], b[:])) }

// rowsOf returns all rows of a list that is not empty, as the chapter describes them.
func rowsOf(l [][]byte) (rows [][]api.Digest) {
	var row []api.Digest
	for _, leaf := range l {
		row = append(row, expectLeaf(leaf))
	}
	rows = append(rows, row)
	for len(row) > 1 {
		var next []api.Digest
		for i := 0; i+1 < len(row); i += 2 {
			next = append(next, expectNode(row[i], row[i+1]))
		}
		if len(row)%2 == 1 {
			next = append(next, row[len(row)-1])
		}
		row = next
		rows = append(rows, row)
	}
	return rows
}

// expectPath returns the digests beside the way of the leaf i.
func expectPath(rows [][]api.Digest, i int) (path []api.Digest) {
	for _, row := range rows[:len(rows)-1] {
		switch {
		case i%2 == 1:
			path = append(path, row[i-1])
		case i+1 < len(row):
			path = append(path, row[i+1])
		}
		i /= 2
	}
	return path
}

// rootOf splits the list as P7.4 says, instead of making rows.
func rootOf(l [][]byte) api.Digest {
	switch len(l) {
	case 0:
		return sum(expectText("none"))
	case 1:
		return expectLeaf(l[0])
	}
	k := 1
	for 2*k < len(l) {
		k *= 2
	}
	return expectNode(rootOf(l[:k]), rootOf(l[k:]))
}

// climbed is what a way has in one row: a digest, and the text of which it is the hash.
type climbed struct {
	d    api.Digest
	text []byte
}

// wayOf returns what the way of the leaf i has in all rows, if the path has the
// right length. It counts by the places of the last digests of the rows.
func wayOf(h hash, n, i int, leaf []byte, path []api.Digest) (way []climbed, ok bool) {
	x := climbed{h(expectText("leaf", leaf)), expectText("leaf", leaf)}
	way = append(way, x)
	for last := n - 1; last > 0; i, last = i/2, last/2 {
		if i%2 == 0 && i == last {
			way = append(way, x)
			continue
		}
		if len(path) == 0 {
			return nil, false
		}
		if i%2 == 0 {
			x.text = expectText("node", x.d[:], path[0][:])
		} else {
			x.text = expectText("node", path[0][:], x.d[:])
		}
		x.d = h(x.text)
		way, path = append(way, x), path[1:]
	}
	return way, len(path) == 0
}

// weak returns a hash with so many bits, for which there are two texts with one digest.
func weak(bits int) hash {
	return func(b []byte) (d api.Digest) {
		d[0] = sum(b)[0] >> (8 - bits)
		return d
	}
}

// mustProve takes a path that comes without an error.
func mustProve(t *testing.T, l [][]byte, i int) []api.Digest {
	t.Helper()
	path, e := Prove(l, i)
	if e != api.OK {
		t.Fatalf("the path of %d of %d: error %d", i, len(l), e)
	}
	return path
}
