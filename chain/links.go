package chain

import (
	"bytes"
	"iter"

	"signatory/api"
	"signatory/codec"
)

// isChain reports whether l, which is short enough, is a chain.
func isChain(l []api.Link) bool {
	for before, head := range beginnings(l) {
		x := l[len(before)]
		if x.No != len(before) || x.Prev != head || !admits(before, x.Node, x.Data) {
			return false
		}
	}
	return true
}

// beginnings yields the beginnings of l that are followed by a link, with
// their heads. A link is hashed only when the next beginning is asked for, so
// that whoever stops at a link with too many data does not have them hashed.
func beginnings(l []api.Link) iter.Seq2[[]api.Link, api.Digest] {
	return func(yield func([]api.Link, api.Digest) bool) {
		for i := range l {
			if before := l[:i]; !yield(before, Head(before)) {
				return
			}
		}
	}
}

// admits reports whether the chain before may go on with these data of a node.
func admits(before []api.Link, node int, data []byte) bool {
	if node < 0 || node >= api.MaxNodes || len(data) > api.MaxSource {
		return false
	}
	return len(before) == 0 || before[0].Node == node
}

// first returns the least index at which an element is as wanted.
func first[T any](l []T, wanted func(at int, x T) bool) (i int, ok bool) {
	for i, x := range l {
		if wanted(i, x) {
			return i, true
		}
	}
	return 0, false
}

func same(x, y api.Link) bool {
	return x.Node == y.Node && x.No == y.No && x.Prev == y.Prev && bytes.Equal(x.Data, y.Data)
}

// linkText returns the text that is hashed for a link.
func linkText(x api.Link) []byte {
	return together(number(x.Node), number(x.No), text(x.Prev[:]), text(x.Data))
}

// together returns the encoding of the list of the parts.
func together(parts ...api.Value) []byte {
	// Lists of numbers and texts are always encoded: there is no error.
	b, _ := codec.Encode(api.Value{Kind: api.ListV, L: parts})
	return b
}

func number(n int) api.Value { return api.Value{Kind: api.IntV, N: n} }

func text(b []byte) api.Value { return api.Value{Kind: api.TextV, S: string(b)} }
