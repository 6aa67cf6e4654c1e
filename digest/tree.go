package digest

import (
	"math/bits"
	"slices"

	"signatory/api"
)

// maxElements is the greatest length of a list that Climb admits.
const maxElements = 1 << 40

// Tree returns the digest of a list.
func Tree(l []api.Digest) (d api.Digest) {
	switch len(l) {
	case 0:
		return Tagged("empty", nil)
	case 1:
		return leaf(l[0])
	}
	half := firstPart(len(l))
	return node(Tree(l[:half]), Tree(l[half:]))
}

// Path returns what proves that an element is in a list.
func Path(l []api.Digest, at int) (path []api.Digest, e api.Errno) {
	if at < 0 || at >= len(l) {
		return nil, api.ErrArg
	}
	return pathTo(l, at), api.OK
}

// Climb returns the digest of a list to which a path leads from an element.
func Climb(d api.Digest, at, n int, path []api.Digest) (root api.Digest, e api.Errno) {
	if n < 1 || n > maxElements || at < 0 || at >= n || len(path) != pathLength(at, n) {
		return api.Digest{}, api.ErrArg
	}
	return climb(d, at, n, path), api.OK
}

func leaf(d api.Digest) api.Digest { return Tagged("leaf", d[:]) }

func node(left, right api.Digest) api.Digest {
	return Tagged("node", slices.Concat(left[:], right[:]))
}

// firstPart returns the greatest power of 2 that is less than n, for n > 1.
func firstPart(n int) int { return 1 << (bits.Len(uint(n-1)) - 1) }

func pathTo(l []api.Digest, at int) []api.Digest {
	if len(l) == 1 {
		return nil
	}
	half := firstPart(len(l))
	if at < half {
		return append(pathTo(l[:half], at), Tree(l[half:]))
	}
	return append(pathTo(l[half:], at-half), Tree(l[:half]))
}

// pathLength returns the length of the path of the index at in a list of n elements.
func pathLength(at, n int) (length int) {
	for ; n > 1; length++ {
		half := firstPart(n)
		if at < half {
			n = half
		} else {
			at, n = at-half, n-half
		}
	}
	return length
}

// climb expects a path of the right length. It takes the path from its end, as
// the last digest is that of the other part of the whole list.
func climb(d api.Digest, at, n int, path []api.Digest) api.Digest {
	if n == 1 {
		return leaf(d)
	}
	half, last := firstPart(n), len(path)-1
	if at < half {
		return node(climb(d, at, half, path[:last]), path[last])
	}
	return node(path[last], climb(d, at-half, n-half, path[:last]))
}
