package chain

import (
	"bytes"
	"crypto/sha256"
	"encoding/binary"
	"slices"
	"testing"

	"signatory/api"
)

// tagged is the hash under a tag that the tests expect: that of Go's library.
func tagged(tag string, b []byte) api.Digest {
	t := sha256.Sum256([]byte(tag))
	return sha256.Sum256(slices.Concat(t[:], b))
}

// expectHead is the head after a link, whose encoding is put together here by hand.
func expectHead(x api.Link) api.Digest {
	b := []byte{3, 4, 1}
	b = binary.AppendVarint(b, int64(x.Node))
	b = binary.AppendVarint(append(b, 1), int64(x.No))
	b = append(append(b, 2, 32), x.Prev[:]...)
	b = binary.AppendUvarint(append(b, 2), uint64(len(x.Data)))
	return tagged("link", append(b, x.Data...))
}

// heads are the heads of all beginnings of l that the tests expect, the whole of it included.
func heads(l []api.Link) []api.Digest {
	all := []api.Digest{tagged("none", nil)}
	for _, x := range l {
		all = append(all, expectHead(x))
	}
	return all
}

// made is the chain of a node with some data, made without Add.
func made(node int, data ...[]byte) []api.Link {
	l := make([]api.Link, len(data))
	for i, b := range data {
		l[i] = api.Link{Node: node, No: i, Data: b}
	}
	return joined(l)
}

// joined has the links of l, each with the head of those before it.
func joined(l []api.Link) []api.Link {
	l = slices.Clone(l)
	head := tagged("none", nil)
	for i := range l {
		l[i].Prev = head
		head = expectHead(l[i])
	}
	return l
}

// of makes data of strings.
func of(l ...string) (data [][]byte) {
	for _, s := range l {
		data = append(data, []byte(s))
	}
	return data
}

// numbered makes different data of 0 to 130 bytes more than their number needs.
func numbered(n int) (data [][]byte) {
	for i := range n {
		data = append(data, append([]byte{byte(i >> 8), byte(i)}, make([]byte, i*7%131)...))
	}
	return data
}

// expectChain says whether l is a chain, by the definition alone: each condition by itself, over all links.
func expectChain(l []api.Link) bool {
	if len(l) > 1024 {
		return false
	}
	for i, x := range l {
		if x.Node < 0 || x.Node > 23 || x.Node != l[0].Node || x.No != i || len(x.Data) > 65536 {
			return false
		}
	}
	for i, d := range heads(l)[:len(l)] {
		if l[i].Prev != d {
			return false
		}
	}
	return true
}

// expectPart is the place at which two chains part.
func expectPart(a, b []api.Link) (i int, ok bool) {
	for i < len(a) && i < len(b) {
		if !equalLinks(a[i], b[i]) {
			return i, true
		}
		i++
	}
	return 0, false
}

// equalLinks reports whether links are equal; nil is as good as no data.
func equalLinks(x, y api.Link) bool {
	data := bytes.Equal(x.Data, y.Data)
	x.Data, y.Data = nil, nil
	return data && [2]int{x.Node, x.No} == [2]int{y.Node, y.No} && x.Prev == y.Prev
}

// clone copies links with all of their memory.
func clone(l []api.Link) []api.Link {
	l = slices.Clone(l)
	for i, x := range l {
		l[i].Data = bytes.Clone(x.Data)
	}
	return l
}

// want checks links that were added, and the error that came with them.
func want(t *testing.T, name string, l []api.Link, e api.Errno, expected []api.Link, err api.Errno) {
	t.Helper()
	if e != err || !slices.EqualFunc(l, expected, equalLinks) {
		t.Errorf("%s: %d links, error %d; not %d links, error %d (or other links)", name, len(l), e, len(expected), err)
	}
}
