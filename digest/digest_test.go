package digest

import (
	"bytes"
	"crypto/sha256"
	"encoding/binary"
	"encoding/hex"
	"math/rand"
	"slices"
	"strings"
	"testing"

	"signatory/api"
)

// someBytes makes n bytes, by a fixed seed.
func someBytes(n int) []byte {
	b := make([]byte, n)
	rand.New(rand.NewSource(int64(n))).Read(b)
	return b
}

// hashOf is the hash that the tests expect: that of Go's library.
func hashOf(pieces ...[]byte) api.Digest { return sha256.Sum256(slices.Concat(pieces...)) }

// hashUnder is the hash under a tag that the tests expect.
func hashUnder(tag string, pieces ...[]byte) api.Digest {
	t := hashOf([]byte(tag))
	return hashOf(t[:], slices.Concat(pieces...))
}

// P2.1: Sum of texts whose hashes are published with the standard.
func TestSumPublished(t *testing.T) {
	for _, x := range []struct{ text, want string }{
		{"", "e3b0c44298fc1c149afbf4c8996fb92427ae41e4649b934ca495991b7852b855"},
		{"abc", "ba7816bf8f01cfea414140de5dae2223b00361a396177a9cb410ff61f20015ad"},
		{
			"abcdbcdecdefdefgefghfghighijhijkijkljklmklmnlmnomnopnopq",
			"248d6a61d20638b8e5c026930c3e6039a33ce45964ff2167f6ecedd419db06c1",
		},
		{
			"abcdefghbcdefghicdefghijdefghijkefghijklfghijklmghijklmnhijklmnoijklmnopjklmnopqklmnopqrlmnopqrsmnopqrstnopqrstu",
			"cf5b16a778af8380036ce59e7b0492370b249b11e8f07a51afac45037afee9d1",
		},
		{strings.Repeat("a", 1000000), "cdc76e5c9914fb9281a1c7e284d73e67f1809a48a497200e046d39ccc7112cd0"},
	} {
		d := Sum([]byte(x.text))
		if got := hex.EncodeToString(d[:]); got != x.want {
			t.Errorf("%d bytes: %s", len(x.text), got)
		}
	}
}

// P2.1: Sum of texts of all lengths around several blocks, of all bytes alike,
// and of long ones, whose number of bits needs more than two bytes.
func TestSumLengths(t *testing.T) {
	lengths := []int{1<<13 - 1, 1 << 13, 1<<13 + 1, 1<<16 + 55, 1<<16 + 56, 1 << 21}
	for n := range 5 * 64 {
		lengths = append(lengths, n)
	}
	for _, n := range lengths {
		for _, b := range [][]byte{someBytes(n), make([]byte, n), bytes.Repeat([]byte{255}, n)} {
			if Sum(b) != hashOf(b) {
				t.Errorf("%d bytes", n)
			}
		}
	}
}

// P2.1: the number of bits at the end of the padded bytes has all of its bytes:
// texts that need more than three of them are too long to hash in a test.
func TestPaddedLength(t *testing.T) {
	for shift := 6; shift < 56; shift++ {
		n := 0x53<<shift - 64
		want := make([]byte, 64)
		want[0] = 0x80
		binary.BigEndian.PutUint64(want[56:], 8*uint64(n))
		if got := padded(nil, n); !bytes.Equal(got, want) {
			t.Errorf("%d bytes: %x", n, got)
		}
	}
}

// P2.1: nil is as good as no bytes.
func TestSumNil(t *testing.T) {
	if Sum(nil) != Sum([]byte{}) || Sum(nil) != hashOf() {
		t.Error("Sum")
	}
	if Tagged("a", nil) != Tagged("a", []byte{}) || Tagged("a", nil) != hashUnder("a") {
		t.Error("Tagged")
	}
}

// P2.1: Tagged hashes the hash of the tag, and then the bytes.
func TestTagged(t *testing.T) {
	tags := []string{"", "a", "node", "\x00", "\xff\xfe", "é", strings.Repeat("t", 32), strings.Repeat("t", 55), strings.Repeat("t", 56), strings.Repeat("t", 200)}
	for _, tag := range tags {
		for _, n := range []int{0, 1, 23, 24, 31, 32, 33, 64, 87, 88, 1000} {
			if b := someBytes(n); Tagged(tag, b) != hashUnder(tag, b) {
				t.Errorf("the tag %q, %d bytes", tag, n)
			}
		}
	}
	none := Sum(nil)
	if Tagged("", nil) != Sum(none[:]) {
		t.Error("the empty tag and no bytes")
	}
	if Tagged("a", []byte("bc")) == Tagged("ab", []byte("c")) {
		t.Error("a part of the tag counts as bytes")
	}
}

// P2.3: Chain hashes the end, and then the digest.
func TestChain(t *testing.T) {
	if Chain(api.Digest{}, api.Digest{}) != hashUnder("chain", make([]byte, 64)) {
		t.Error("zero digests")
	}
	l := someDigests(20)
	for _, end := range l {
		for _, d := range l {
			if Chain(end, d) != hashUnder("chain", end[:], d[:]) {
				t.Errorf("%x, %x", end, d)
			}
		}
	}
	if Chain(l[0], l[1]) == Chain(l[1], l[0]) {
		t.Error("the order does not count")
	}
}

// P2.3: the chain of a list is that of the list without its last element, and this element.
func TestChainOfList(t *testing.T) {
	chainOf := func(l []api.Digest) (end api.Digest) {
		for _, d := range l {
			end = Chain(end, d)
		}
		return end
	}
	l := someDigests(50)
	seen := map[api.Digest]bool{chainOf(nil): true}
	for n := 1; n <= len(l); n++ {
		end, before := chainOf(l[:n]), chainOf(l[:n-1])
		if end != hashUnder("chain", before[:], l[n-1][:]) {
			t.Errorf("%d elements", n)
		}
		if seen[end] {
			t.Errorf("%d elements: the chain of fewer", n)
		}
		seen[end] = true
	}
}

// R2, R6: no call changes its arguments, the memory behind them, or what
// another call has returned.
func TestPure(t *testing.T) {
	memory := someBytes(500)
	kept := bytes.Clone(memory)
	for n := range memory {
		first := Sum(memory[:n])
		Tagged("a", memory[:n])
		if Sum(memory[:n]) != first {
			t.Errorf("%d bytes: two results", n)
		}
	}
	if !bytes.Equal(memory, kept) {
		t.Error("the bytes have changed")
	}
	digests := someDigests(40)
	l, keptDigests := digests[:21], slices.Clone(digests)
	path, _ := Path(l, 3)
	keptPath := slices.Clone(path)
	for at := range l {
		p, _ := Path(l, at)
		Climb(l[at], at, len(l), p)
	}
	Climb(l[3], 3, len(l), path)
	Tree(l)
	if !slices.Equal(digests, keptDigests) || !slices.Equal(path, keptPath) {
		t.Error("the digests have changed")
	}
}

// Sum agrees with Go's library, whatever it is given.
func FuzzSum(f *testing.F) {
	for _, n := range []int{0, 1, 55, 56, 63, 64, 65, 119, 120, 200} {
		f.Add(someBytes(n))
	}
	f.Fuzz(func(t *testing.T, b []byte) {
		if Sum(b) != hashOf(b) {
			t.Fatal(b)
		}
	})
}
