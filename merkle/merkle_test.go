package merkle

import (
	"bytes"
	"math"
	"math/rand"
	"slices"
	"testing"

	"signatory/api"
	"signatory/digest"
)

// P7.1: roots of few leaves, written out.
func TestRootWrittenOut(t *testing.T) {
	l, node := someLeaves(8), expectNode
	var a []api.Digest
	for _, leaf := range l {
		a = append(a, expectLeaf(leaf))
	}
	four := node(node(a[0], a[1]), node(a[2], a[3]))
	for n, want := range []api.Digest{
		sum(expectText("none")),
		a[0],
		node(a[0], a[1]),
		node(node(a[0], a[1]), a[2]),
		four,
		node(four, a[4]),
		node(four, node(a[4], a[5])),
		node(four, node(node(a[4], a[5]), a[6])),
		node(four, node(node(a[4], a[5]), node(a[6], a[7]))),
	} {
		if Root(l[:n]) != want {
			t.Errorf("%d leaves", n)
		}
	}
	if Root(nil) != Root([][]byte{}) || Root(nil) != digest.Tagged("none", nil) {
		t.Error("no leaves")
	}
}

// P7.1: paths of seven leaves, written out.
func TestProveWrittenOut(t *testing.T) {
	l, node := someLeaves(7), expectNode
	var a []api.Digest
	for _, leaf := range l {
		a = append(a, expectLeaf(leaf))
	}
	first, second, third := node(a[0], a[1]), node(a[2], a[3]), node(a[4], a[5])
	for i, want := range [][]api.Digest{
		{a[1], second, node(third, a[6])},
		{a[0], second, node(third, a[6])},
		{a[3], first, node(third, a[6])},
		{a[2], first, node(third, a[6])},
		{a[5], a[6], node(first, second)},
		{a[4], a[6], node(first, second)},
		{third, node(first, second)},
	} {
		if path := mustProve(t, l, i); !slices.Equal(path, want) {
			t.Errorf("the path of %d: %x", i, path)
		}
	}
	if path := mustProve(t, l[:3], 2); !slices.Equal(path, []api.Digest{first}) {
		t.Errorf("the last of three leaves: %x", path)
	}
	if path := mustProve(t, l[:5], 4); !slices.Equal(path, []api.Digest{node(first, second)}) {
		t.Errorf("the last of five leaves: %x", path)
	}
	if path := mustProve(t, l[:1], 0); len(path) != 0 {
		t.Errorf("one leaf: %x", path)
	}
}

// P7.1: a leaf counts with all of its bytes, whatever their number; nil is as good as none.
func TestLeaves(t *testing.T) {
	for _, n := range []int{0, 1, 22, 23, 24, 31, 32, 33, 63, 64, 65, 1000, 100000} {
		leaf := someBytes(n)
		d := sum(expectText("leaf", leaf))
		if Root([][]byte{leaf}) != d || Root([][]byte{leaf}) != digest.Tagged("leaf", leaf) {
			t.Errorf("a leaf of %d bytes", n)
		}
		if Root([][]byte{leaf, leaf}) != expectNode(d, d) {
			t.Errorf("two leaves of %d bytes", n)
		}
	}
	if Root([][]byte{nil, {}}) != Root([][]byte{{}, nil}) || Root([][]byte{nil}) != expectLeaf(nil) {
		t.Error("leaves without bytes")
	}
	a, e := Climb(1, 0, nil, nil)
	b, f := Climb(1, 0, []byte{}, []api.Digest{})
	if e != api.OK || f != api.OK || a != b || a != expectLeaf(nil) {
		t.Error("Climb without bytes", e, f)
	}
}

// P7.1: roots and paths of many lengths, of different leaves and of equal ones.
func TestRootAndProve(t *testing.T) {
	lengths := []int{100, 127, 128, 129, 255, 256, 257, 1023, 1024, 1025}
	for n := 1; n <= 70; n++ {
		lengths = append(lengths, n)
	}
	all := someLeaves(1025)
	for _, n := range lengths {
		for _, l := range [][][]byte{all[:n], make([][]byte, n)} {
			rows := rowsOf(l)
			if Root(l) != rows[len(rows)-1][0] {
				t.Errorf("the root of %d leaves", n)
			}
			for i := 0; i < n; i += 1 + n/30 {
				if path := mustProve(t, l, i); !slices.Equal(path, expectPath(rows, i)) {
					t.Errorf("the path of %d of %d", i, n)
				}
			}
			if path := mustProve(t, l, n-1); !slices.Equal(path, expectPath(rows, n-1)) {
				t.Errorf("the last path of %d", n)
			}
		}
	}
}

// P7.1, P7.3: lists to the limit, and one leaf less.
func TestLongest(t *testing.T) {
	all := someLeaves(api.MaxLeaves)
	for _, n := range []int{api.MaxLeaves - 1, api.MaxLeaves} {
		l := all[:n]
		rows, root := rowsOf(l), Root(l)
		if root != rows[len(rows)-1][0] {
			t.Errorf("the root of %d leaves", n)
		}
		for _, i := range []int{0, 21845, n - 1} {
			path := mustProve(t, l, i)
			if !slices.Equal(path, expectPath(rows, i)) || len(path) > 16 {
				t.Errorf("the path of %d of %d", i, n)
			}
			if d, e := Climb(n, i, l[i], path); e != api.OK || d != root {
				t.Errorf("from %d of %d: %x, %d", i, n, d, e)
			}
		}
	}
}

// P7.1: Prove refuses whatever is no leaf, and lists with too many leaves.
func TestProveErrors(t *testing.T) {
	l := someLeaves(9)
	for _, n := range []int{0, 1, 2, 3, 8, 9} {
		for _, i := range []int{math.MinInt, -1 << 32, -n - 1, -1, n, n + 1, 16, 65536, 1 << 32, math.MaxInt} {
			if path, e := Prove(l[:n], i); e != api.ErrArg || len(path) != 0 {
				t.Errorf("%d of %d: %d digests, %d", i, n, len(path), e)
			}
		}
	}
	for _, n := range []int{65537, 65538, 1 << 17} {
		for _, i := range []int{-1, 0, 1, 65535, 65536, n - 1, n} {
			if path, e := Prove(make([][]byte, n), i); e != api.ErrArg || len(path) != 0 {
				t.Errorf("%d of %d: %d digests, %d", i, n, len(path), e)
			}
		}
	}
	if path, e := Prove(nil, 0); e != api.ErrArg || len(path) != 0 {
		t.Error("no leaves", len(path), e)
	}
}

// P7.2: climbing, written out.
func TestClimbWrittenOut(t *testing.T) {
	p, leaf, node := someDigests(3), []byte("a leaf"), expectNode
	a := expectLeaf(leaf)
	for _, x := range []struct {
		n, i, length int
		want         api.Digest
	}{
		{1, 0, 0, a},
		{2, 0, 1, node(a, p[0])}, {2, 1, 1, node(p[0], a)},
		{3, 0, 2, node(node(a, p[0]), p[1])}, {3, 1, 2, node(node(p[0], a), p[1])}, {3, 2, 1, node(p[0], a)},
		{4, 2, 2, node(p[1], node(a, p[0]))}, {4, 3, 2, node(p[1], node(p[0], a))},
		{5, 0, 3, node(node(node(a, p[0]), p[1]), p[2])}, {5, 3, 3, node(node(p[1], node(p[0], a)), p[2])}, {5, 4, 1, node(p[0], a)},
		{6, 4, 2, node(p[1], node(a, p[0]))}, {6, 5, 2, node(p[1], node(p[0], a))},
		{7, 5, 3, node(p[2], node(node(p[0], a), p[1]))}, {7, 6, 2, node(p[1], node(p[0], a))},
		{8, 5, 3, node(p[2], node(node(p[0], a), p[1]))}, {8, 6, 3, node(p[2], node(p[1], node(a, p[0])))},
		{32769, 32768, 1, node(p[0], a)}, {49153, 49152, 2, node(p[1], node(p[0], a))},
	} {
		if d, e := Climb(x.n, x.i, leaf, p[:x.length]); e != api.OK || d != x.want {
			t.Errorf("from %d of %d: %x, %d", x.i, x.n, d, e)
		}
	}
}

// P7.2: for each leaf there is one length of a path that Climb admits; it
// returns ErrPath for all others.
func TestClimbLengths(t *testing.T) {
	type place struct{ n, i int }
	var places []place
	for n := 1; n <= 40; n++ {
		for i := range n {
			places = append(places, place{n, i})
		}
	}
	for _, n := range []int{1023, 1024, 1025, 32767, 32768, 32769, 40000, 65535, 65536} {
		places = append(places, place{n, 0}, place{n, 1}, place{n, n / 3}, place{n, n / 2}, place{n, n - 2}, place{n, n - 1})
	}
	p := someDigests(20)
	for _, x := range places {
		admitted := 0
		for length := range p {
			leaf := someBytes(length)
			way, ok := wayOf(sum, x.n, x.i, leaf, p[:length])
			d, e := Climb(x.n, x.i, leaf, p[:length])
			if ok && (e != api.OK || d != way[len(way)-1].d) {
				t.Errorf("%v, %d digests: %x, %d", x, length, d, e)
			}
			if !ok && (e != api.ErrPath || d != api.Digest{}) {
				t.Errorf("%v, %d digests: %x, %d, not ErrPath", x, length, d, e)
			}
			if ok {
				admitted++
			}
		}
		if admitted != 1 {
			t.Errorf("%v: %d lengths", x, admitted)
		}
	}
}

// noPlaces are numbers of leaves, and places that there are not among them.
func noPlaces() [][2]int {
	return [][2]int{
		{0, 0}, {0, -1}, {-1, 0}, {-1, -1}, {-1, -2}, {-2, 1}, {math.MinInt, 0}, {math.MinInt, math.MinInt}, {math.MinInt, -1},
		{1, -1}, {1, 1}, {1, math.MinInt}, {1, math.MaxInt}, {2, 2}, {3, 3}, {3, -1}, {3, 4}, {4, 4}, {65535, 65535},
		{65536, 65536}, {65536, -1}, {65537, 0}, {65537, 65535}, {65537, 65536}, {65537, 65537}, {131072, 0}, {131072, 131071},
		{1<<32 + 1, 0}, {1 << 40, 5}, {math.MaxInt, 0}, {math.MaxInt, math.MaxInt - 1}, {math.MaxInt, -1},
	}
}

// P7.2: Climb returns ErrArg for places that there are not, whatever the path is.
func TestClimbErrors(t *testing.T) {
	p := someDigests(64)
	for _, x := range noPlaces() {
		for length := range p {
			if d, e := Climb(x[0], x[1], []byte("a"), p[:length]); e != api.ErrArg || d != (api.Digest{}) {
				t.Errorf("%v, %d digests: %x, %d", x, length, d, e)
			}
		}
	}
	for _, length := range []int{0, 2, 1000, 65536} {
		if d, e := Climb(2, 0, []byte("a"), make([]api.Digest, length)); e != api.ErrPath || d != (api.Digest{}) {
			t.Errorf("%d digests: %x, %d", length, d, e)
		}
	}
}

// P7.3: from each leaf its path leads to the root; from another leaf, with
// another path or from another place it leads elsewhere, and nothing collides.
func TestClimbOfPath(t *testing.T) {
	all := someLeaves(40)
	for n := 1; n <= len(all); n++ {
		l := all[:n]
		root := Root(l)
		for i, leaf := range l {
			path := mustProve(t, l, i)
			if d, e := Climb(n, i, leaf, path); e != api.OK || d != root {
				t.Errorf("from %d of %d: %x, %d", i, n, d, e)
			}
			other := all[(i+1)%len(all)]
			if d, e := Climb(n, i, other, path); e != api.OK || d == root {
				t.Errorf("from another leaf at %d of %d: %d", i, n, e)
			}
			expectNone(t, n, i, leaf, other, path, path)
			expectNone(t, n, i, leaf, leaf, path, path)
			for k := range path {
				wrong := slices.Clone(path)
				wrong[k][i%32] ^= 1 << (k % 8)
				if d, e := Climb(n, i, leaf, wrong); e != api.OK || d == root {
					t.Errorf("from %d of %d with a change at %d: %d", i, n, k, e)
				}
				expectNone(t, n, i, leaf, leaf, path, wrong)
				expectNone(t, n, i, leaf, other, path, wrong)
			}
			if d, _ := Climb(n, i^1, leaf, path); n > 1 && d == root {
				t.Errorf("from the other place of %d of %d", i, n)
			}
		}
	}
}

// P7.1, P7.3: lists that are not equal have different roots: those that are ends
// or beginnings of each other, in another order, with a last leaf twice, or with
// the text or the digest of a list as a leaf.
func TestRootDifferent(t *testing.T) {
	l := [][]byte{[]byte("a"), []byte("b"), []byte("ab"), []byte("c")}
	a, b := expectLeaf(l[0]), expectLeaf(l[1])
	pair := Root(l[:2])
	seen := map[api.Digest]int{}
	for i, x := range [][][]byte{
		nil, {{}}, {{}, {}}, {{}, {}, {}},
		l[:1], l[1:2], l[:2], {l[1], l[0]}, l[2:3], l[:3], l[1:], l,
		{l[0], l[0]}, {l[0], l[1], l[1]}, {l[0], l[1], l[2], l[2]}, {l[0], l[1], l[2], l[3], l[3]},
		{a[:]}, {slices.Concat(a[:], b[:])}, {a[:], b[:]}, {pair[:]}, {pair[:], l[2]},
		{expectText("leaf", l[0])}, {expectText("node", a[:], b[:])}, {[]byte("none")}, {expectText("none")},
	} {
		d := Root(x)
		if k, ok := seen[d]; ok {
			t.Errorf("the lists %d and %d", k, i)
		}
		seen[d] = i
	}
}

// P7.4: the root is that of a node of two roots.
func TestRootOfParts(t *testing.T) {
	l := someLeaves(300)
	for n := range l {
		if Root(l[:n]) != rootOf(l[:n]) {
			t.Errorf("%d leaves", n)
		}
	}
	for _, x := range []struct{ n, k int }{{2, 1}, {3, 2}, {4, 2}, {5, 4}, {8, 4}, {9, 8}, {255, 128}, {256, 128}, {257, 256}, {300, 256}} {
		a, b := Root(l[:x.k]), Root(l[x.k:x.n])
		if Root(l[:x.n]) != digest.Tagged("node", slices.Concat(a[:], b[:])) {
			t.Errorf("%d leaves", x.n)
		}
	}
}

// P7.4: a path has at most 16 digests, fewer in shorter lists, and one at least where there are two leaves.
func TestPathLength(t *testing.T) {
	for n := 1; n <= api.MaxLeaves; n += 1 + n/50 {
		for _, i := range []int{0, n / 3, n / 2, n - 1} {
			k := pathLength(n, i)
			if k > 16 || n > 1 && (k < 1 || 1<<(k-1) >= n) {
				t.Errorf("the path of %d of %d: %d", i, n, k)
			}
		}
	}
	if k := pathLength(api.MaxLeaves, api.MaxLeaves-1); k != 16 {
		t.Error(k)
	}
}

// P7.2: an iterator over steps stops when it is told to, and yields the same steps again.
func TestSteps(t *testing.T) {
	l := steps(5, 4)
	for s := range l {
		if s != (step{4, true}) {
			t.Error(s)
		}
		break
	}
	for range 2 {
		if got := slices.Collect(l); !slices.Equal(got, []step{{4, true}, {2, true}, {1, false}}) {
			t.Error(got)
		}
	}
}

// R2, R6: no call changes its arguments, the memory behind them, or what another
// call has returned; equal calls return equal results.
func TestPure(t *testing.T) {
	memory, digests := someBytes(400), someDigests(20)
	var all [][]byte
	for i := range 40 {
		all = append(all, memory[10*i:10*i+i%10])
	}
	l := all[:21]
	keptMemory, keptDigests, keptAll := bytes.Clone(memory), slices.Clone(digests), slices.Clone(all)
	root, path := Root(l), mustProve(t, l, 3)
	keptPath := slices.Clone(path)
	x, y, _ := collide(weak(0), 21, 3, l[1], l[2], digests[:5], digests[5:10])
	keptX, keptY := bytes.Clone(x), bytes.Clone(y)
	for i := range l {
		p := mustProve(t, l, i)
		Climb(21, i, l[i], p)
		Climb(21, i, l[i], digests[:len(p)])
		Collide(21, i, l[1], l[2], digests[:len(p)], digests[1:len(p)+1])
		collide(weak(0), 21, i, l[1], l[2], digests[:len(p)], digests[1:len(p)+1])
	}
	if root != Root(l) || !slices.Equal(path, mustProve(t, l, 3)) {
		t.Error("other results")
	}
	if !slices.Equal(path, keptPath) || !bytes.Equal(x, keptX) || !bytes.Equal(y, keptY) {
		t.Error("a result has changed")
	}
	if !bytes.Equal(memory, keptMemory) || !slices.Equal(digests, keptDigests) || !slices.EqualFunc(all, keptAll, bytes.Equal) {
		t.Error("an argument has changed")
	}
}

// P7.1 to P7.4: whatever leaves there are, roots, paths and climbs are as expected.
func FuzzMerkle(f *testing.F) {
	f.Add([]byte("one two  three"), uint16(1))
	f.Add([]byte("   "), uint16(3))
	f.Fuzz(func(t *testing.T, b []byte, at uint16) {
		l := bytes.Split(b, []byte(" "))
		if len(l) > 300 {
			l = l[:300]
		}
		rows, i := rowsOf(l), int(at)%len(l)
		root, path := Root(l), mustProve(t, l, i)
		if root != rows[len(rows)-1][0] || root != rootOf(l) || !slices.Equal(path, expectPath(rows, i)) {
			t.Fatalf("%q, %d: %x, %x", l, i, root, path)
		}
		if d, e := Climb(len(l), i, l[i], path); e != api.OK || d != root {
			t.Fatalf("%q, %d: %x, %d", l, i, d, e)
		}
		r := rand.New(rand.NewSource(int64(at)))
		checkCollide(t, r, weak(r.Intn(4)), len(l), i)
	})
}
