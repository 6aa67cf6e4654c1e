package merkle

import (
	"slices"

	"signatory/api"
	"signatory/digest"
)

func leafText(leaf []byte) []byte { return text("leaf", leaf) }

func nodeText(left, right api.Digest) []byte { return text("node", left[:], right[:]) }

// text returns the bytes of which digest.Sum is digest.Tagged of a tag and of the parts.
func text(tag string, parts ...[]byte) []byte {
	t := digest.Sum([]byte(tag))
	return append(t[:], slices.Concat(parts...)...)
}

func firstRow(l [][]byte) (row []api.Digest) {
	for _, leaf := range l {
		row = append(row, digest.Sum(leafText(leaf)))
	}
	return row
}

func nextRow(row []api.Digest) (next []api.Digest) {
	for pair := range slices.Chunk(row, 2) {
		next = append(next, together(pair...))
	}
	return next
}

// together returns the digest of a row that stands for one or two digests of the row before.
func together(l ...api.Digest) api.Digest {
	if len(l) == 1 {
		return l[0]
	}
	return digest.Sum(nodeText(l[0], l[1]))
}
