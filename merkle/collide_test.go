package merkle

import (
	"bytes"
	"math/rand"
	"slices"
	"testing"

	"signatory/api"
)

// expectNone checks that Collide returns nothing.
func expectNone(t *testing.T, n, i int, a, b []byte, p, q []api.Digest) {
	t.Helper()
	if x, y, ok := Collide(n, i, a, b, p, q); ok || len(x)+len(y) > 0 {
		t.Errorf("%d of %d: %x, %x, %v", i, n, x, y, ok)
	}
}

// P7.2: Collide returns nothing if one of the ways, or both, cannot be climbed,
// also where the leaves, the paths and the errors are equal or not.
func TestCollideErrors(t *testing.T) {
	p := someDigests(20)
	a, b := []byte("a"), []byte("b")
	for _, x := range noPlaces() {
		for _, k := range []int{0, 1, 2, 16} {
			expectNone(t, x[0], x[1], a, b, p[:k], p[:k])
			expectNone(t, x[0], x[1], a, a, p[:k], p[k:])
		}
	}
	for n := 1; n <= 9; n++ {
		for i := range n {
			for j := range 6 {
				for k := range 6 {
					if j != pathLength(n, i) || k != pathLength(n, i) {
						expectNone(t, n, i, a, b, p[:j], p[:k])
						expectNone(t, n, i, a, a, p[:j], p[:k])
						if x, y, ok := collide(weak(0), n, i, a, b, p[:j], p[:k]); ok || len(x)+len(y) > 0 {
							t.Errorf("%d of %d, %d and %d digests: %x, %x, %v", i, n, j, k, x, y, ok)
						}
					}
				}
			}
		}
	}
}

// P7.2: Collide returns nothing if both ways lead to different digests, or if
// the leaves are equal, also if one of them is nil.
func TestCollideNothing(t *testing.T) {
	p := someDigests(16)
	for _, x := range [][2]int{{1, 0}, {2, 0}, {2, 1}, {3, 2}, {7, 5}, {65536, 0}, {65536, 65535}, {65535, 65534}} {
		k := pathLength(x[0], x[1])
		expectNone(t, x[0], x[1], []byte("a"), []byte("b"), p[:k], p[:k])
		expectNone(t, x[0], x[1], nil, []byte("b"), p[:k], p[:k])
		expectNone(t, x[0], x[1], []byte("a"), []byte("a"), p[:k], p[:k])
		expectNone(t, x[0], x[1], nil, []byte{}, p[:k], p[:k])
		expectNone(t, x[0], x[1], []byte{}, nil, p[:k], p[:k])
	}
	// Equal leaves prove nothing, even if different paths lead to one root.
	if x, y, ok := collide(weak(0), 2, 0, nil, []byte{}, p[:1], p[1:2]); ok || len(x)+len(y) > 0 {
		t.Errorf("equal leaves: %x, %x, %v", x, y, ok)
	}
}

// expectCollide returns what Collide has to return, as the chapter describes it.
func expectCollide(h hash, n, i int, a, b []byte, p, q []api.Digest) (x, y []byte, ok bool) {
	v, okV := wayOf(h, n, i, a, p)
	w, okW := wayOf(h, n, i, b, q)
	if !okV || !okW || v[len(v)-1].d != w[len(w)-1].d || bytes.Equal(a, b) {
		return nil, nil, false
	}
	for k := range v {
		if v[k].d == w[k].d {
			return v[k].text, w[k].text, true
		}
	}
	return nil, nil, false
}

// checkCollide checks Collide with another hash, two small leaves at a place and
// paths that are the same from somewhere on. It reports whether they collide.
func checkCollide(t *testing.T, r *rand.Rand, h hash, n, i int) bool {
	t.Helper()
	k := pathLength(n, i)
	p, q := make([]api.Digest, k), make([]api.Digest, k)
	for at := range k {
		r.Read(p[at][:])
		r.Read(q[at][:])
	}
	common := r.Intn(k + 1)
	copy(q[common:], p[common:])
	a, b := make([]byte, r.Intn(3)), make([]byte, r.Intn(3))
	r.Read(a)
	r.Read(b)
	x, y, ok := collide(h, n, i, a, b, p, q)
	v, w, want := expectCollide(h, n, i, a, b, p, q)
	if ok != want || !bytes.Equal(x, v) || !bytes.Equal(y, w) {
		t.Errorf("%d of %d, the leaves %x and %x: %x, %x, %v, not %x, %x, %v", i, n, a, b, x, y, ok, v, w, want)
	}
	if ok && (bytes.Equal(x, y) || h(x) != h(y)) {
		t.Errorf("%d of %d, the leaves %x and %x: the texts %x and %x", i, n, a, b, x, y)
	}
	return ok
}

// P7.2, P7.3, P7.4: with hashes so weak that texts do collide, whoever shows two
// leaves of one root shows the two texts of the first row with one digest.
func TestCollideWeak(t *testing.T) {
	r := rand.New(rand.NewSource(7))
	found := 0
	for n := 1; n <= 20; n++ {
		for i := range n {
			for bits := range 5 {
				for range 30 {
					if checkCollide(t, r, weak(bits), n, i) {
						found++
					}
				}
			}
		}
	}
	for range 300 {
		n := 1 + r.Intn(api.MaxLeaves)
		checkCollide(t, r, weak(1+r.Intn(3)), n, r.Intn(n))
		checkCollide(t, r, weak(1+r.Intn(3)), n, n-1)
	}
	if found < 5000 {
		t.Error(found, "collisions")
	}
}

// P7.3: for every two small leaves with one digest, and with a path of their
// own, the texts are those of the leaves, whatever comes after them.
func TestCollideLeaves(t *testing.T) {
	h, p, q := weak(2), someDigests(4), someDigests(8)[4:]
	for c := range 40 {
		for d := range 40 {
			a, b := []byte{byte(c)}, []byte{byte(d)}
			if c == d || h(expectText("leaf", a)) != h(expectText("leaf", b)) {
				continue
			}
			for _, n := range []int{1, 2, 3, 5, 9, 16} {
				k := pathLength(n, n-1)
				x, y, ok := collide(h, n, n-1, a, b, p[:k], p[:k])
				if !ok || !bytes.Equal(x, expectText("leaf", a)) || !bytes.Equal(y, expectText("leaf", b)) {
					t.Errorf("%d leaves, %x and %x: %x, %x, %v", n, a, b, x, y, ok)
				}
			}
			x, y, ok := collide(h, 16, 0, a, b, p, q)
			v, w, want := expectCollide(h, 16, 0, a, b, p, q)
			if ok != want || !bytes.Equal(x, v) || !bytes.Equal(y, w) {
				t.Errorf("other paths, %x and %x: %x, %x, %v", a, b, x, y, ok)
			}
		}
	}
}

// P7.3: a hash that has one digest for two chosen nodes alone, in each row, and
// also where digests are left alone in between: their texts are returned.
func TestCollideNodes(t *testing.T) {
	a, b := []byte("a"), []byte("b")
	for _, x := range [][2]int{{2, 0}, {2, 1}, {3, 0}, {3, 2}, {5, 4}, {6, 5}, {7, 6}, {11, 10}, {16, 9}, {21, 20}, {37, 36}, {65536, 43690}} {
		n, i := x[0], x[1]
		k := pathLength(n, i)
		p := someDigests(k)
		v, _ := wayOf(sum, n, i, a, p)
		w, _ := wayOf(sum, n, i, b, p)
		for row := range v {
			h := func(c []byte) api.Digest {
				if bytes.Equal(c, w[row].text) {
					return v[row].d
				}
				return sum(c)
			}
			s, u, ok := collide(h, n, i, a, b, p, p)
			if !ok || !bytes.Equal(s, v[row].text) || !bytes.Equal(u, w[row].text) {
				t.Errorf("%d of %d, row %d: %x, %x, %v", i, n, row, s, u, ok)
			}
			u, s, ok = collide(h, n, i, b, a, p, p)
			if !ok || !bytes.Equal(s, v[row].text) || !bytes.Equal(u, w[row].text) {
				t.Errorf("%d of %d, row %d, the other way round: %x, %x, %v", i, n, row, u, s, ok)
			}
		}
		if slices.ContainsFunc(v, func(c climbed) bool { return c.d == w[len(w)-1].d }) {
			t.Error("the ways meet without such a hash")
		}
	}
}
