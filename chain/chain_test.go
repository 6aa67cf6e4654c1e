package chain

import (
	"bytes"
	"encoding/hex"
	"math"
	"math/rand"
	"slices"
	"testing"

	"signatory/api"
	"signatory/codec"
	"signatory/digest"
)

// P8.1: heads, written out.
func TestHeadWrittenOut(t *testing.T) {
	l := made(15, []byte("a"), nil)
	for i, want := range []string{
		"fc0dc92a9ee3a34bdcd9829491bb7b0c1c0195252746bd42cf69b9c2cf45fdfa",
		"8a46846e66643b508c854024a2aadcf172528cea5b40df7c5fa65f025026487e",
		"f1afe812b648013435ad0aa43ac39e4ec4d6c4c05ac0a8d896bda07bfb56b601",
	} {
		d := Head(l[:i])
		if got := hex.EncodeToString(d[:]); got != want {
			t.Errorf("the head of %d links: %s", i, got)
		}
	}
}

// P8.1: the head of no links, and that of a link by the exported functions of codec and digest.
func TestHead(t *testing.T) {
	if Head(nil) != digest.Tagged("none", nil) || Head([]api.Link{}) != Head(nil) {
		t.Error("no links")
	}
	for _, x := range made(7, numbered(40)...) {
		b, e := codec.Encode(api.Value{Kind: api.ListV, L: []api.Value{
			{Kind: api.IntV, N: x.Node},
			{Kind: api.IntV, N: x.No},
			{Kind: api.TextV, S: string(x.Prev[:])},
			{Kind: api.TextV, S: string(x.Data)},
		}})
		if d := Head([]api.Link{x}); e != api.OK || d != digest.Tagged("link", b) || d != expectHead(x) {
			t.Errorf("link %d: %x, %d", x.No, d, e)
		}
	}
}

// P8.1: Head accepts lists that are no chains, with any numbers and up to 2^20
// bytes; only the last link counts.
func TestHeadOfNoChain(t *testing.T) {
	numbers := []int{math.MinInt, -1 << 40, -65, -1, 0, 1, 23, 24, 63, 64, 1023, 1024, 1 << 32, math.MaxInt}
	before := []api.Link{{}, {Node: -5, No: 9, Data: make([]byte, 70000)}}
	for i, node := range numbers {
		for _, no := range numbers {
			x := api.Link{Node: node, No: no, Prev: api.Digest{byte(i), 31: 7}, Data: []byte("ab")}
			if Head([]api.Link{x}) != expectHead(x) || Head(append(before, x)) != expectHead(x) {
				t.Errorf("the node %d, the number %d", node, no)
			}
		}
	}
	for _, n := range []int{0, 1, 127, 128, 16383, 16384, 65536, 65537, 1<<20 - 1, 1 << 20} {
		x := api.Link{Node: 30, No: 1, Data: bytes.Repeat([]byte{200}, n)}
		if Head([]api.Link{x}) != expectHead(x) {
			t.Errorf("%d bytes", n)
		}
	}
	if Head(make([]api.Link, 3000)) != expectHead(api.Link{}) {
		t.Error("3000 links")
	}
}

// P8.1: each field of the last link counts for the head, and only there.
func TestHeadDifferent(t *testing.T) {
	x := api.Link{Node: 1, No: 2, Data: []byte("ab")}
	seen := map[api.Digest]int{Head(nil): -1}
	for i, y := range []api.Link{
		{}, x,
		{Node: 2, No: 1, Data: []byte("ab")},
		{Node: 2, No: 2, Data: []byte("ab")},
		{Node: 1, No: 1, Data: []byte("ab")},
		{Node: 1, No: 2, Data: []byte("a")},
		{Node: 1, No: 2, Data: []byte("ab\x00")},
		{Node: 1, No: 2, Data: []byte("ba")},
		{Node: 1, No: 2},
		{Node: 1, No: 2, Prev: api.Digest{1}, Data: []byte("ab")},
		{Node: 1, No: 2, Prev: api.Digest{31: 1}, Data: []byte("ab")},
		{Node: 1, No: 2, Prev: api.Digest{31: 'a'}, Data: []byte("b")},
	} {
		d := Head([]api.Link{y})
		if k, ok := seen[d]; ok {
			t.Errorf("the links %d and %d", k, i)
		}
		seen[d] = i
	}
}

// P8.1: chains of all nodes, of many lengths and with data to the limit.
func TestCheck(t *testing.T) {
	if Check(nil) != api.OK || Check([]api.Link{}) != api.OK {
		t.Error("no links")
	}
	for node := range 24 {
		if e := Check(made(node, of("a", "", "a", "b")...)); e != api.OK {
			t.Errorf("node %d: %d", node, e)
		}
	}
	l := made(23, numbered(1024)...)
	for _, n := range []int{1, 2, 3, 24, 25, 127, 128, 129, 1023, 1024} {
		if e := Check(l[:n]); e != api.OK {
			t.Errorf("%d links: %d", n, e)
		}
	}
	big := make([]byte, 65536)
	if e := Check(made(0, big, nil, big[1:], []byte{}, big)); e != api.OK {
		t.Errorf("65536 bytes: %d", e)
	}
}

// P8.1: wrong links at each place of a chain, whose Prev is that of the links that are there.
func TestCheckWrong(t *testing.T) {
	for i, change := range []func(x *api.Link){
		func(x *api.Link) { x.Node = -1 },
		func(x *api.Link) { x.Node = 24 },
		func(x *api.Link) { x.Node = math.MinInt },
		func(x *api.Link) { x.Node = 3 + 1<<32 },
		func(x *api.Link) { x.No-- },
		func(x *api.Link) { x.No++ },
		func(x *api.Link) { x.No += 1 << 32 },
		func(x *api.Link) { x.No = math.MinInt },
		func(x *api.Link) { x.No = math.MaxInt },
		func(x *api.Link) { x.Data = make([]byte, 65537) },
		func(x *api.Link) { x.Data = make([]byte, 1<<20) },
	} {
		for at := range 5 {
			l := made(3, of("a", "b", "", "c", "d")...)
			change(&l[at])
			l = joined(l)
			if e := Check(l); e != api.ErrChain || expectChain(l) {
				t.Errorf("change %d at %d: %d", i, at, e)
			}
		}
	}
	for _, node := range []int{math.MinInt, -24, -1, 24, 25, 63, 1 << 40, math.MaxInt} {
		if e := Check(made(node, of("a", "b")...)); e != api.ErrChain {
			t.Errorf("all links of node %d: %d", node, e)
		}
	}
	for at := range 4 {
		l := made(3, of("a", "b", "", "c", "d")...)
		for i := range l[at+1:] {
			l[at+1+i].Node = 4
		}
		if e := Check(joined(l)); e != api.ErrChain {
			t.Errorf("another node from %d on: %d", at+1, e)
		}
	}
	if e := Check([]api.Link{{No: 1, Prev: Head(nil)}}); e != api.ErrChain {
		t.Error("a link with No 1", e)
	}
}

// P8.1: a chain with each bit of each Prev changed, and with a wrong head in its place.
func TestCheckPrev(t *testing.T) {
	kept := made(3, of("a", "b", "", "c")...)
	all := heads(kept)
	for at := range kept {
		for bit := range 256 {
			l := slices.Clone(kept)
			l[at].Prev[bit/8] ^= 1 << (bit % 8)
			if e := Check(l); e != api.ErrChain {
				t.Errorf("bit %d at %d: %d", bit, at, e)
			}
		}
		for i, d := range append(all, api.Digest{}, digest.Sum(nil), tagged("link", nil), tagged("empty", nil)) {
			if i == at {
				continue
			}
			l := slices.Clone(kept)
			l[at].Prev = d
			if e := Check(l); e != api.ErrChain {
				t.Errorf("the digest %d at %d: %d", i, at, e)
			}
			// The links after it fit what is wrong.
			for k := at + 1; k < len(l); k++ {
				l[k].Prev = expectHead(l[k-1])
			}
			if e := Check(l); e != api.ErrChain {
				t.Errorf("the digest %d at %d, and others after it: %d", i, at, e)
			}
		}
	}
}

// P8.1: ends, parts in another order, and links twice are no chains.
func TestCheckOrder(t *testing.T) {
	l := made(3, of("a", "a", "b", "c")...)
	for i, x := range [][]api.Link{
		l[1:], l[2:], l[3:],
		{l[1], l[0]}, {l[0], l[2]}, {l[0], l[0]}, {l[0], l[1], l[1]}, {l[0], l[2], l[1], l[3]}, {l[0], l[1], l[3]},
		slices.Concat(l, l), {{}}, {{}, {}}, append(slices.Clone(l), api.Link{}),
	} {
		if e := Check(x); e != api.ErrChain || expectChain(x) {
			t.Errorf("list %d: %d", i, e)
		}
	}
}

// P8.1: too many links are too many, whether they fit or not.
func TestCheckLimit(t *testing.T) {
	long := made(3, make([][]byte, 1025)...)
	if e := Check(long[:1024]); e != api.OK {
		t.Error("1024 links", e)
	}
	for _, l := range [][]api.Link{long, make([]api.Link, 1025), make([]api.Link, 5000)} {
		if e := Check(l); e != api.ErrLimit {
			t.Errorf("%d links: %d", len(l), e)
		}
	}
	if e := Check(make([]api.Link, 1024)); e != api.ErrChain {
		t.Error("1024 links that do not fit", e)
	}
}

// P8.2: chains of all nodes, link by link.
func TestAdd(t *testing.T) {
	data := append(of("a", "", "ccc", "a"), make([]byte, 65535), make([]byte, 65536), nil)
	for node := range 24 {
		expected := made(node, data...)
		var l []api.Link
		for i, b := range data {
			x, e := Add(l, node, b)
			want(t, "Add", x, e, expected[:i+1], api.OK)
			l = x
		}
	}
	x, e := Add([]api.Link{}, 5, []byte{})
	want(t, "nothing", x, e, []api.Link{{Node: 5, Prev: digest.Tagged("none", nil)}}, api.OK)
}

// P8.2: nodes that are not, or not those of the links, and too many data.
func TestAddErrors(t *testing.T) {
	for _, length := range []int{0, 1, 2, 1023} {
		l := made(23, make([][]byte, length)...)
		for _, node := range []int{math.MinInt, -1 << 32, -1, 0, 22, 23, 24, 25, 63, 23 + 1<<32, math.MaxInt} {
			for _, size := range []int{0, 1, 65536, 65537, 1 << 20} {
				data := make([]byte, size)
				x, e := Add(l, node, data)
				if node < 0 || node > 23 || length > 0 && node != 23 || size > 65536 {
					want(t, "wrong arguments", x, e, nil, api.ErrArg)
					continue
				}
				want(t, "right arguments", x, e, append(slices.Clip(l), api.Link{Node: node, No: length, Prev: Head(l), Data: data}), api.OK)
			}
		}
	}
}

// P8.2: errors come in the order of the chapter.
func TestAddOrder(t *testing.T) {
	long := made(3, make([][]byte, 1025)...)
	tooMuch := make([]byte, 65537)
	wrong := slices.Clone(long[:1024])
	wrong[1023].No = 0
	for _, x := range []struct {
		l    []api.Link
		node int
		data []byte
		e    api.Errno
	}{
		{nil, 24, nil, api.ErrArg},
		{long, 3, nil, api.ErrLimit},
		{long, 4, tooMuch, api.ErrLimit},
		{wrong, 3, nil, api.ErrChain},
		{wrong, -1, tooMuch, api.ErrChain},
		{wrong[1:], 3, nil, api.ErrChain},
		{long[:1024], 4, nil, api.ErrArg},
		{long[:1024], 24, nil, api.ErrArg},
		{long[:1024], 3, tooMuch, api.ErrArg},
		{long[:1024], 3, nil, api.ErrLimit},
		{long[:1024], 3, []byte("a"), api.ErrLimit},
		{long[:1023], 3, nil, api.OK},
	} {
		l, e := Add(x.l, x.node, x.data)
		expected := long[:0]
		if x.e == api.OK {
			expected = long[:1024]
		}
		want(t, "Add", l, e, expected, x.e)
	}
}

// P8.2, R2: chains that continue one chain leave each other alone, however much room it has.
func TestAddApart(t *testing.T) {
	room := made(3, of("a", "b", "c", "d")...)
	kept := clone(room)
	l := room[:2]
	a, e := Add(l, 3, []byte("x"))
	b, f := Add(l, 3, []byte("y"))
	c, g := Add(a[:2], 3, []byte("z"))
	want(t, "a", a, e, made(3, of("a", "b", "x")...), api.OK)
	want(t, "b", b, f, made(3, of("a", "b", "y")...), api.OK)
	want(t, "c", c, g, made(3, of("a", "b", "z")...), api.OK)
	want(t, "the memory behind l", room, api.OK, kept, api.OK)
}

// trees are all chains of a node with up to three links, each with one of the data.
func trees(node int, data [][]byte) (l [][]api.Link) {
	lists := [][][]byte{nil}
	for i := 0; i < len(lists); i++ {
		l = append(l, made(node, lists[i]...))
		if len(lists[i]) < 3 {
			for _, b := range data {
				lists = append(lists, append(slices.Clip(lists[i]), b))
			}
		}
	}
	return l
}

// P8.3: any two of many chains, with and without anything in common.
func TestPart(t *testing.T) {
	l := trees(3, of("", "a", "ab"))
	for _, a := range l {
		for _, b := range l {
			at, parted := expectPart(a, b)
			if i, ok, e := Part(a, b); i != at || ok != parted || e != api.OK {
				t.Errorf("%d and %d links: %d, %v, %d; not %d, %v", len(a), len(b), i, ok, e, at, parted)
			}
			if i, ok, e := Part(a, clone(a)); i != 0 || ok || e != api.OK {
				t.Errorf("%d links, twice: %d, %v, %d", len(a), i, ok, e)
			}
		}
	}
}

// P8.3: long chains that part at each of some places; which of them is longer does not matter.
func TestPartLong(t *testing.T) {
	data := numbered(1024)
	a := made(0, data...)
	for _, at := range []int{0, 1, 2, 500, 1022, 1023} {
		other := slices.Clone(data)
		other[at] = append(slices.Clip(other[at]), 1)
		b := made(0, other...)
		for _, x := range [][2][]api.Link{{a, b}, {b, a}, {a[:at+1], b}, {b, a[:at+1]}, {a[:at+1], b[:at+1]}} {
			if i, ok, e := Part(x[0], x[1]); i != at || !ok || e != api.OK {
				t.Errorf("%d: %d, %v, %d", at, i, ok, e)
			}
		}
		for _, x := range [][2][]api.Link{{a, b[:at]}, {b[:at], a}, {a[:at], b[:at]}, {nil, a}, {a, nil}, {a[:at], a}} {
			if i, ok, e := Part(x[0], x[1]); i != 0 || ok || e != api.OK {
				t.Errorf("%d: %d, %v, %d", at, i, ok, e)
			}
		}
	}
}

// P8.3: nil is as good as no data.
func TestPartNil(t *testing.T) {
	a, b := made(3, nil, nil), made(3, []byte{}, []byte{})
	if i, ok, e := Part(a, b); i != 0 || ok || e != api.OK {
		t.Error(i, ok, e)
	}
	if i, ok, e := Part(nil, []api.Link{}); i != 0 || ok || e != api.OK {
		t.Error(i, ok, e)
	}
}

// P8.3: the error of the first chain comes first, then that of the second one,
// and then that of nodes that are different.
func TestPartErrors(t *testing.T) {
	long := make([]api.Link, 1025)
	wrong := made(3, of("a", "b")...)
	wrong[1].No = 2
	for i, x := range []struct {
		a, b []api.Link
		e    api.Errno
	}{
		{long, wrong, api.ErrLimit},
		{wrong, long, api.ErrChain},
		{long, long, api.ErrLimit},
		{made(3, nil), long, api.ErrLimit},
		{long, made(3, nil), api.ErrLimit},
		{nil, wrong, api.ErrChain},
		{wrong, nil, api.ErrChain},
		{wrong, wrong, api.ErrChain},
		{made(4, nil), long, api.ErrLimit},
		{made(4, of("a")...), made(3, of("a")...), api.ErrChain},
		{made(0, of("a", "b")...), made(23, of("c")...), api.ErrChain},
		{nil, made(23, of("c")...), api.OK},
		{made(4, of("a")...), nil, api.OK},
	} {
		if at, ok, e := Part(x.a, x.b); at != 0 || ok || e != x.e {
			t.Errorf("%d: %d, %v, %d; not %d", i, at, ok, e, x.e)
		}
	}
}

// P8.3: links are equal if all of their fields are.
func TestSame(t *testing.T) {
	x := api.Link{Node: 1, No: 2, Prev: api.Digest{3}, Data: []byte("ab")}
	for i, change := range []func(x *api.Link){
		func(x *api.Link) { x.Node = 2 },
		func(x *api.Link) { x.No = 1 },
		func(x *api.Link) { x.Prev[31] = 1 },
		func(x *api.Link) { x.Data = []byte("a") },
		func(x *api.Link) { x.Data = []byte("aB") },
		func(x *api.Link) { x.Data = nil },
	} {
		y := x
		change(&y)
		if same(x, y) || same(y, x) || !same(y, y) {
			t.Errorf("change %d", i)
		}
	}
}

// P8.4: each beginning of a chain that was added link by link is a chain, and
// its head is the Prev of the next link.
func TestBeginningsAreChains(t *testing.T) {
	var l []api.Link
	for i, b := range numbered(150) {
		x, e := Add(l, 9, b)
		if e != api.OK || Check(x) != api.OK || x[i].Prev != Head(l) {
			t.Fatalf("link %d: %d", i, e)
		}
		l = x
	}
	for n := range l {
		if e := Check(l[:n]); e != api.OK || Head(l[:n]) != l[n].Prev {
			t.Errorf("%d links: %d", n, e)
		}
	}
}

// P8.4: no two of many chains have the same head.
func TestHeadsOfChains(t *testing.T) {
	seen := map[api.Digest][]api.Link{}
	for node := range 24 {
		for _, l := range trees(node, of("", "a", "ab")) {
			d := Head(l)
			if k, ok := seen[d]; ok && !slices.EqualFunc(k, l, equalLinks) {
				t.Errorf("node %d, %d links, the head %x", node, len(l), d)
			}
			seen[d] = l
		}
	}
	if len(seen) != 1+24*(3+9+27) {
		t.Error(len(seen))
	}
}

// P8.4: a link that is replaced is noticed, unless it is the last one.
func TestReplaced(t *testing.T) {
	l := made(3, of("a", "b", "", "c", "d")...)
	for at, x := range l {
		for _, data := range of("", "a", "b", "c", "d", "aa", "\x00") {
			m := slices.Clone(l)
			m[at] = api.Link{Node: 3, No: at, Prev: x.Prev, Data: data}
			replaced := !equalLinks(m[at], x)
			if ok := Check(m) == api.OK; ok != (!replaced || at == len(l)-1) {
				t.Errorf("%q at %d: a chain is %v", data, at, ok)
			}
			if replaced && Head(m[:at+1]) == Head(l[:at+1]) {
				t.Errorf("%q at %d: the same head", data, at)
			}
		}
		for i, y := range l {
			m := slices.Clone(l)
			m[at] = y
			if ok := Check(m) == api.OK; ok != (i == at) {
				t.Errorf("link %d at %d: a chain is %v", i, at, ok)
			}
		}
	}
}

// P8.1: beginnings are yielded with their heads as long as they are asked for, and again.
func TestBeginnings(t *testing.T) {
	l := made(3, of("a", "b", "")...)
	all, seq := heads(l), beginnings(l)
	for range 2 {
		n := 0
		for before, head := range seq {
			if len(before) != n || head != all[n] || !slices.EqualFunc(before, l[:n], equalLinks) {
				t.Errorf("beginning %d: %d links, %x", n, len(before), head)
			}
			n++
		}
		if n != len(l) {
			t.Errorf("%d beginnings", n)
		}
	}
	for before := range seq {
		if len(before) == 1 {
			break
		}
	}
}

// R2, R6: no call changes its arguments, the memory behind them, or what
// another call has returned; equal calls return equal results.
func TestPure(t *testing.T) {
	memory := []byte("abcdefghijklmnop")
	keptMemory := bytes.Clone(memory)
	l := made(3, memory[:2], memory[2:4], memory[4:5], memory[4:4])
	other := made(3, memory[:2], memory[3:4])
	kept, keptOther := clone(l), clone(other)
	x, e := Add(l[:3], 3, memory[5:9])
	want(t, "first", x, e, made(3, of("ab", "cd", "e", "fghi")...), api.OK)
	for n := range l {
		Head(l[:n])
		Check(l[:n])
		Add(l[:n], 3, memory[n:2*n])
		Add(x[:n], 3, memory[n:2*n])
		Add(l[:n], 24, memory)
		Part(l[:n], other)
		Part(other, x)
	}
	y, e := Add(l[:3], 3, memory[5:9])
	want(t, "again", y, e, x, api.OK)
	want(t, "what was returned", x, api.OK, made(3, of("ab", "cd", "e", "fghi")...), api.OK)
	want(t, "the argument", l, api.OK, kept, api.OK)
	want(t, "the other argument", other, api.OK, keptOther, api.OK)
	if !bytes.Equal(memory, keptMemory) {
		t.Error("the data have changed")
	}
}

// spoil changes a link at random, or how links follow each other.
func spoil(r *rand.Rand, l []api.Link) []api.Link {
	if len(l) == 0 {
		return l
	}
	at := r.Intn(len(l))
	switch x := &l[at]; r.Intn(7) {
	case 0:
		x.Node += r.Intn(3) - 1
	case 1:
		x.No += r.Intn(3) - 1
	case 2:
		x.Prev[r.Intn(32)] ^= byte(r.Intn(2))
	case 3:
		x.Data = append(slices.Clip(x.Data), make([]byte, r.Intn(3))...)
	case 4:
		return joined(l)
	case 5:
		return slices.Delete(l, at, at+1)
	case 6:
		l[at] = l[r.Intn(len(l))]
	}
	return l
}

// P8.1 to P8.3: whatever becomes of two chains, all functions do as expected.
func FuzzChain(f *testing.F) {
	f.Add([]byte("one two  three"), 3, int64(1))
	f.Add([]byte("   "), 24, int64(2))
	f.Add([]byte(""), -1, int64(3))
	f.Fuzz(func(t *testing.T, b []byte, node int, seed int64) {
		data := bytes.Split(b, []byte(" "))
		r := rand.New(rand.NewSource(seed))
		x := made(node, data[:min(r.Intn(9), len(data))]...)
		y := joined(spoil(r, clone(x)))
		for range r.Intn(3) {
			x = spoil(r, x)
		}
		if all := heads(x); Head(x) != all[len(x)] {
			t.Fatalf("the head of %v", x)
		}
		right, rightY := expectChain(x), expectChain(y)
		if ok := Check(x) == api.OK; ok != right {
			t.Fatalf("%v: a chain is %v", x, ok)
		}
		z, e := Add(x, node, data[0])
		next := joined(append(slices.Clip(x), api.Link{Node: node, No: len(x), Data: data[0]}))
		switch {
		case right && expectChain(next) && (e != api.OK || !slices.EqualFunc(z, next, equalLinks)):
			t.Fatalf("%v: %v, %d", x, z, e)
		case right && !expectChain(next) && (e != api.ErrArg || len(z) != 0):
			t.Fatalf("%v, which cannot go on with node %d: %v, %d", x, node, z, e)
		case !right && (e != api.ErrChain || len(z) != 0):
			t.Fatalf("%v, which is no chain: %v, %d", x, z, e)
		}
		at, parted := expectPart(x, y)
		i, ok, e := Part(x, y)
		switch fits := right && rightY && (len(x) == 0 || len(y) == 0 || x[0].Node == y[0].Node); {
		case fits && (e != api.OK || ok != parted || i != at):
			t.Fatalf("%v and %v: %d, %v, %d", x, y, i, ok, e)
		case !fits && (e != api.ErrChain || ok || i != 0):
			t.Fatalf("%v and %v, which do not fit: %d, %v, %d", x, y, i, ok, e)
		}
	})
}
