package digest

import (
	"math"
	"math/rand"
	"slices"
	"testing"

	"signatory/api"
)

// someDigests makes n digests, by a fixed seed; the first ones are the same for all n.
func someDigests(n int) []api.Digest {
	r := rand.New(rand.NewSource(2))
	l := make([]api.Digest, n)
	for i := range l {
		r.Read(l[i][:])
	}
	return l
}

func expectLeaf(d api.Digest) api.Digest { return hashUnder("leaf", d[:]) }

func expectNode(a, b api.Digest) api.Digest { return hashUnder("node", a[:], b[:]) }

// rowsOf returns the digests of a tree row by row, from the leaves on. It pairs
// neighbours, which leads to the tree of the chapter without splitting a list:
// a last one that is left alone moves up as it is.
func rowsOf(l []api.Digest) (rows [][]api.Digest) {
	var row []api.Digest
	for _, d := range l {
		row = append(row, expectLeaf(d))
	}
	rows = [][]api.Digest{row}
	for len(row) > 1 {
		var next []api.Digest
		for pair := range slices.Chunk(row, 2) {
			if len(pair) == 2 {
				next = append(next, expectNode(pair[0], pair[1]))
			} else {
				next = append(next, pair[0])
			}
		}
		row = next
		rows = append(rows, row)
	}
	return rows
}

// expectPath returns the neighbours on the way up through the rows.
func expectPath(rows [][]api.Digest, at int) (path []api.Digest) {
	for _, row := range rows {
		if neighbour := at ^ 1; neighbour < len(row) {
			path = append(path, row[neighbour])
		}
		at /= 2
	}
	return path
}

// expectClimb goes up from the leaf by the bits of its index and of the last
// index, without splitting a list. It reports whether the path has the right length.
func expectClimb(d api.Digest, at, n int, path []api.Digest) (root api.Digest, ok bool) {
	root, last := expectLeaf(d), n-1
	for _, p := range path {
		if last == 0 {
			return api.Digest{}, false
		}
		for at%2 == 0 && at == last {
			at, last = at/2, last/2
		}
		if at%2 == 1 {
			root = expectNode(p, root)
		} else {
			root = expectNode(root, p)
		}
		at, last = at/2, last/2
	}
	for at%2 == 0 && at == last && last > 0 {
		at, last = at/2, last/2
	}
	return root, last == 0
}

// P2.2: trees of few elements, written out.
func TestTreeWrittenOut(t *testing.T) {
	l, node := someDigests(8), expectNode
	var a []api.Digest
	for _, d := range l {
		a = append(a, expectLeaf(d))
	}
	four := node(node(a[0], a[1]), node(a[2], a[3]))
	for n, want := range []api.Digest{
		hashUnder("empty"),
		a[0],
		node(a[0], a[1]),
		node(node(a[0], a[1]), a[2]),
		four,
		node(four, a[4]),
		node(four, node(a[4], a[5])),
		node(four, node(node(a[4], a[5]), a[6])),
		node(four, node(node(a[4], a[5]), node(a[6], a[7]))),
	} {
		if Tree(l[:n]) != want {
			t.Errorf("%d elements", n)
		}
	}
	if Tree([]api.Digest{}) != Tree(nil) {
		t.Error("an empty list that is not nil")
	}
}

// P2.2: paths in a list of seven elements, written out.
func TestPathWrittenOut(t *testing.T) {
	l, node := someDigests(7), expectNode
	var a []api.Digest
	for _, d := range l {
		a = append(a, expectLeaf(d))
	}
	first, second, third := node(a[0], a[1]), node(a[2], a[3]), node(a[4], a[5])
	four, three := node(first, second), node(third, a[6])
	for at, want := range [][]api.Digest{
		{a[1], second, three},
		{a[0], second, three},
		{a[3], first, three},
		{a[2], first, three},
		{a[5], a[6], four},
		{a[4], a[6], four},
		{third, four},
	} {
		path, e := Path(l, at)
		if e != api.OK || !slices.Equal(path, want) {
			t.Errorf("the path of %d: %x %d", at, path, e)
		}
		if root, e := Climb(l[at], at, 7, want); e != api.OK || root != node(four, three) {
			t.Errorf("from %d: %x %d", at, root, e)
		}
	}
}

// P2.2: trees and paths of many lengths, and of equal elements.
func TestTreeAndPath(t *testing.T) {
	l := someDigests(1025)
	for _, n := range []int{1, 2, 3, 4, 5, 6, 7, 8, 9, 15, 16, 17, 31, 32, 33, 50, 64, 65, 100, 127, 128, 129, 1000, 1023, 1024, 1025} {
		for _, l := range [][]api.Digest{l[:n], make([]api.Digest, n)} {
			rows := rowsOf(l)
			if Tree(l) != rows[len(rows)-1][0] {
				t.Errorf("%d elements: Tree", n)
			}
			for at := 0; at < n; at += 1 + n/20 {
				if path, e := Path(l, at); e != api.OK || !slices.Equal(path, expectPath(rows, at)) {
					t.Errorf("%d elements: the path of %d: %d", n, at, e)
				}
			}
		}
	}
}

// P2.2: Path refuses whatever is no index.
func TestPathErrors(t *testing.T) {
	l := someDigests(9)
	for _, n := range []int{0, 1, 2, 3, 8, 9} {
		for _, at := range []int{math.MinInt, -n, -1, n, n + 1, 1 << 40, math.MaxInt} {
			if at == 0 && n > 0 {
				continue
			}
			if path, e := Path(l[:n], at); e != api.ErrArg || len(path) != 0 {
				t.Errorf("%d of %d elements: %d digests, %d", at, n, len(path), e)
			}
		}
	}
	if path, e := Path(nil, 0); e != api.ErrArg || len(path) != 0 {
		t.Error("Path(nil, 0)", len(path), e)
	}
}

// P2.2: Climb of one element.
func TestClimbOne(t *testing.T) {
	for _, d := range append(someDigests(3), api.Digest{}) {
		for _, none := range [][]api.Digest{nil, {}} {
			root, e := Climb(d, 0, 1, none)
			if e != api.OK || root != expectLeaf(d) || root != Tree([]api.Digest{d}) {
				t.Errorf("%x: %x %d", d, root, e)
			}
		}
	}
}

// P2.2: Climb leads somewhere from each digest with each path of the right
// length, and refuses all other lengths, also in lists that are too long to exist.
func TestClimbLengths(t *testing.T) {
	type place struct{ at, n int }
	places := []place{
		{0, 1 << 40}, {1, 1 << 40}, {1<<40 - 1, 1 << 40}, {1 << 39, 1 << 40},
		{1<<39 - 1, 1<<39 + 1}, {1 << 39, 1<<39 + 1}, {1<<40 - 2, 1<<40 - 1}, {1<<40 - 3, 1<<40 - 1}, {0, 1<<40 - 1},
	}
	for n := 1; n <= 20; n++ {
		for at := range n {
			places = append(places, place{at, n})
		}
	}
	r := rand.New(rand.NewSource(3))
	for range 200 {
		n := 1 + r.Intn(1<<(1+r.Intn(40)))
		places = append(places, place{r.Intn(n), n})
	}
	all := someDigests(43)
	for _, x := range places {
		admitted := 0
		for length := range all {
			d, path := all[0], all[1:][:length]
			want, ok := expectClimb(d, x.at, x.n, path)
			root, e := Climb(d, x.at, x.n, path)
			if ok && (e != api.OK || root != want) {
				t.Errorf("%v, %d digests: %x %d", x, length, root, e)
			}
			if !ok && (e != api.ErrArg || root != api.Digest{}) {
				t.Errorf("%v, %d digests: %x %d, not ErrArg", x, length, root, e)
			}
			if ok {
				admitted++
			}
		}
		if admitted != 1 {
			t.Errorf("%v: %d lengths", x, admitted)
		}
	}
}

// P2.2: Climb refuses lists and indices that there are not.
func TestClimbErrors(t *testing.T) {
	for _, x := range []struct{ at, n, length int }{
		{0, 0, 0}, {-1, 0, 0}, {0, -1, 0}, {-1, -1, 0}, {-2, -1, 0},
		{0, math.MinInt, 0}, {math.MinInt, math.MinInt, 0},
		{-1, 1, 0}, {1, 1, 0}, {2, 1, 0}, {math.MinInt, 1, 0}, {math.MaxInt, 1, 0},
		{0, 1, 1}, {0, 2, 0}, {1, 2, 0}, {0, 2, 2}, {-1, 2, 1}, {2, 2, 1},
		{2, 3, 2}, {0, 3, 1}, {3, 3, 1}, {3, 3, 2},
		{0, 5, 2}, {4, 5, 3}, {5, 5, 1}, {-1, 5, 3},
		{1 << 40, 1 << 40, 40}, {0, 1 << 40, 39}, {0, 1 << 40, 41},
		{0, 1<<40 + 1, 40}, {0, 1<<40 + 1, 41}, {1 << 40, 1<<40 + 1, 1},
		{0, 1 << 41, 41}, {0, 1 << 62, 62}, {0, math.MaxInt, 63}, {math.MaxInt - 1, math.MaxInt, 62},
		{0, 1, 1000}, {999, 1000, 1000},
	} {
		root, e := Climb(api.Digest{1}, x.at, x.n, someDigests(x.length))
		if e != api.ErrArg || root != (api.Digest{}) {
			t.Errorf("%v: %x %d", x, root, e)
		}
	}
}

// P2.4: from each element its path leads to the digest of the list, and from no
// other element, with no other path; paths are short.
func TestClimbOfPath(t *testing.T) {
	l := someDigests(70)
	for n := 1; n <= len(l); n++ {
		root := Tree(l[:n])
		for at, d := range l[:n] {
			path, e := Path(l[:n], at)
			if e != api.OK || len(path) > 40 || n > 1 && 1<<(len(path)-1) >= n {
				t.Fatalf("%d of %d: %d digests, %d", at, n, len(path), e)
			}
			if got, e := Climb(d, at, n, path); e != api.OK || got != root {
				t.Errorf("%d of %d: %x %d", at, n, got, e)
			}
			if got, _ := Climb(l[(at+1)%len(l)], at, n, path); got == root {
				t.Errorf("%d of %d: another element leads to the digest, too", at, n)
			}
			for i := range path {
				wrong := slices.Clone(path)
				wrong[i][at%32] ^= 1
				if got, e := Climb(d, at, n, wrong); e != api.OK || got == root {
					t.Errorf("%d of %d: with a change at %d: %d", at, n, i, e)
				}
			}
		}
	}
}

// P2.4: paths in a long list.
func TestClimbOfLongPath(t *testing.T) {
	n := api.MaxLeaves + 1
	l := someDigests(n)
	root := Tree(l)
	for _, x := range []struct{ at, length int }{{n / 3, 17}, {n - 1, 1}} {
		path, e := Path(l, x.at)
		got, f := Climb(l[x.at], x.at, n, path)
		if e != api.OK || f != api.OK || got != root || len(path) != x.length {
			t.Errorf("%d of %d: %d digests, %d %d", x.at, n, len(path), e, f)
		}
	}
}

// P2.4: the digest of a list is that of a node of its two parts.
func TestTreeOfParts(t *testing.T) {
	l := someDigests(300)
	for _, x := range []struct{ n, first int }{{2, 1}, {3, 2}, {4, 2}, {5, 4}, {8, 4}, {9, 8}, {255, 128}, {256, 128}, {257, 256}, {300, 256}} {
		if Tree(l[:x.n]) != expectNode(Tree(l[:x.first]), Tree(l[x.first:x.n])) {
			t.Errorf("%d elements", x.n)
		}
	}
}

// P2.4: after a power of 2, a new element makes a node of the old digest and the new leaf.
func TestTreeGrows(t *testing.T) {
	l := someDigests(1025)
	for n := 1; n < len(l); n *= 2 {
		if Tree(l[:n+1]) != expectNode(Tree(l[:n]), Tree(l[n:n+1])) {
			t.Errorf("%d elements", n)
		}
	}
}

// P2.2: lists that are not equal have different digests: those that are ends or
// beginnings of each other, in another order, or with a digest in place of its list.
func TestTreeDifferent(t *testing.T) {
	l := someDigests(4)
	seen := map[api.Digest]int{}
	for i, x := range [][]api.Digest{
		nil, {{}}, {{}, {}}, {{}, {}, {}},
		l[:1], l[1:2], l[:2], {l[1], l[0]}, l[:3], l[1:], l,
		{l[0], l[0]}, {l[0], l[1], l[1]}, {l[0], l[1], l[2], l[2]},
		{Tree(l[:1])}, {Tree(l[:2])}, {Tree(l[:2]), Tree(l[2:])}, {Tree(nil)},
	} {
		d := Tree(x)
		if k, ok := seen[d]; ok {
			t.Errorf("the lists %d and %d", k, i)
		}
		seen[d] = i
	}
}
