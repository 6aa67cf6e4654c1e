package merkle

import (
	"bytes"
	"iter"

	"signatory/api"
)

// A hash is digest.Sum. It is an argument because two texts with one digest
// can be found, and so collide can be tested, only with a weaker one.
type hash func(b []byte) api.Digest

// A step is a place of a way, in any row but the last one.
type step struct {
	at    int  // the place in the row
	alone bool // nothing is hashed together with what is there
}

// neighbour returns the place of what is hashed together with what is at the place of s.
func (s step) neighbour() int { return s.at ^ 1 }

// text returns the text of a digest at the place of s and of its neighbour.
func (s step) text(d, neighbour api.Digest) []byte {
	if s.neighbour() < s.at {
		return nodeText(neighbour, d)
	}
	return nodeText(d, neighbour)
}

// steps yields the steps of the way of the leaf i of n leaves.
func steps(n, i int) iter.Seq[step] {
	return func(yield func(step) bool) {
		for size, at := n, i; size > 1; size, at = (size+1)/2, at/2 {
			s := step{at: at}
			s.alone = s.neighbour() >= size
			if !yield(s) {
				return
			}
		}
	}
}

func isLeaf(n, i int) bool { return n <= api.MaxLeaves && i >= 0 && i < n }

// pathLength returns the length of the path of the leaf i of n leaves.
func pathLength(n, i int) (length int) {
	for s := range steps(n, i) {
		if !s.alone {
			length++
		}
	}
	return length
}

// climb is Climb with the hash h.
func climb(h hash, n, i int, leaf []byte, path []api.Digest) (d api.Digest, e api.Errno) {
	if !isLeaf(n, i) {
		return api.Digest{}, api.ErrArg
	}
	if len(path) != pathLength(n, i) {
		return api.Digest{}, api.ErrPath
	}
	d = h(leafText(leaf))
	for s := range steps(n, i) {
		if !s.alone {
			d = h(s.text(d, path[0]))
			path = path[1:]
		}
	}
	return d, api.OK
}

// collide is Collide with the hash h.
func collide(h hash, n, i int, a, b []byte, p, q []api.Digest) (x, y []byte, ok bool) {
	c, e := climb(h, n, i, a, p)
	d, f := climb(h, n, i, b, q)
	if e != api.OK || f != api.OK || c != d || bytes.Equal(a, b) {
		return nil, nil, false
	}
	x, y = firstCommon(h, n, i, a, b, p, q)
	return x, y, true
}

// firstCommon returns the texts of the first row in which two ways to one root
// have the same digest. Different digests that are left alone stay different,
// so that these texts never belong to a row into which a digest came as it is.
func firstCommon(h hash, n, i int, a, b []byte, p, q []api.Digest) (x, y []byte) {
	x, y = leafText(a), leafText(b)
rows:
	for s := range steps(n, i) {
		c, d := h(x), h(y)
		switch {
		case c == d:
			break rows
		case s.alone:
			continue rows
		}
		x, y = s.text(c, p[0]), s.text(d, q[0])
		p, q = p[1:], q[1:]
	}
	return x, y
}
