package sign

import (
	"crypto/sha256"
	"encoding/binary"
	"math"
	"math/big"
	"math/rand"
	"slices"
	"testing"

	"signatory/api"
)

// The numbers of the group, written out.
const (
	modulus = 2147483579
	order   = 1073741789
)

func exact(n int) *big.Int { return big.NewInt(int64(n)) }

// raised is the power of a modulo P to n, which may be negative if a is prime to P.
func raised(a, n int) int {
	return int(new(big.Int).Exp(exact(a), exact(n), exact(modulus)).Int64())
}

func product(a, b int) int {
	c := new(big.Int).Mul(exact(a), exact(b))
	return int(c.Mod(c, exact(modulus)).Int64())
}

// isElement follows the definition: the power to Q is 1.
func isElement(x int) bool { return x >= 1 && x < modulus && raised(x, order) == 1 }

// keyOf is the key of a secret, which may be 0.
func keyOf(secret int) int { return raised(4, secret) }

// reduced is the number from 0 to Q - 1 that is congruent to n.
func reduced(n *big.Int) int { return int(new(big.Int).Mod(n, exact(order)).Int64()) }

// onto is k + e * secret modulo Q.
func onto(k, e, secret int) int {
	n := new(big.Int).Mul(exact(e), exact(secret))
	return reduced(n.Add(n, exact(k)))
}

// encoded is the encoding of the list of some integers and a text, put
// together by hand: 2n and -2n - 1 to the base 128 are Go's own varints.
func encoded(numbers []int, text []byte) []byte {
	b := []byte{3, byte(len(numbers) + 1)}
	for _, n := range numbers {
		b = binary.AppendVarint(append(b, 1), int64(n))
	}
	b = binary.AppendUvarint(append(b, 2), uint64(len(text)))
	return append(b, text...)
}

// hashed is the hash of bytes under a tag, by Go's own SHA-256.
func hashed(tag string, b []byte) int {
	t := sha256.Sum256([]byte(tag))
	d := sha256.Sum256(append(t[:], b...))
	d[0] %= 128
	return reduced(new(big.Int).SetBytes(d[:8]))
}

func nonceHash(secret int, b []byte) int { return hashed("nonce", encoded([]int{secret}, b)) }

func challengeOf(point, key int, b []byte) int {
	return hashed("sign", encoded([]int{point, key}, b))
}

// madeWith is the signature with a secret, which may be 0, and any nonce.
func madeWith(k, secret int, b []byte) (s api.Sig) {
	s.E = challengeOf(raised(4, k), keyOf(secret), b)
	s.S = onto(k, s.E, secret)
	return s
}

// expected is what Sign promises, and its error.
func expected(secret int, b []byte) (s api.Sig, e api.Errno) {
	if secret <= 0 || secret > order-1 {
		return api.Sig{}, 110
	}
	k := nonceHash(secret, b)
	if k == 0 {
		k = 1
	}
	return madeWith(k, secret, b), 0
}

// pointOf is the point of a signature for a key, which is prime to P.
func pointOf(key int, s api.Sig) int {
	return product(raised(4, s.S), raised(raised(key, -1), s.E))
}

// isRight is what Verify promises.
func isRight(key int, b []byte, s api.Sig) bool {
	if !isElement(key) || s.E < 0 || s.E > order-1 || s.S < 0 || s.S > order-1 {
		return false
	}
	return s.E == challengeOf(pointOf(key, s), key, b)
}

// edges are integers around everything that the chapter names, and at both ends of all integers.
func edges() (l []int) {
	for _, n := range []int{0, 5, order / 2, order, modulus, 2 * order, 1 << 32, 1 << 60, order * order, math.MaxInt / order * order} {
		for d := -3; d <= 3; d++ {
			l = append(l, n+d, -n-d)
		}
	}
	l = append(l, math.MaxInt, math.MinInt, math.MinInt+1)
	slices.Sort(l)
	return slices.Compact(l)
}

// someSecrets are the least and the greatest ones, and n others, by a fixed seed.
func someSecrets(n int) []int {
	r := rand.New(rand.NewSource(int64(n)))
	l := []int{1, 2, 3, 5, 63, 64, 8191, 8192, order / 2, order/2 + 1, order - 2, order - 1}
	for range n {
		l = append(l, 1+r.Intn(order-1))
	}
	return l
}

// someTexts are texts whose lengths have one, two and three digits to the base
// 128, and texts that are nearly equal.
func someTexts() (l [][]byte) {
	for _, s := range []string{"", "\x00", "\x00\x00", "a", "b", "ab", "ba", "a letter", "A letter", "nonce", "sign", "\xff\x80\xfe"} {
		l = append(l, []byte(s))
	}
	r := rand.New(rand.NewSource(1))
	for _, n := range []int{22, 23, 24, 63, 64, 65, 127, 128, 129, 300, 16383, 16384} {
		b := make([]byte, n)
		r.Read(b)
		l = append(l, b)
	}
	return l
}

// signed is Sign where no error is admitted.
func signed(t *testing.T, secret int, b []byte) api.Sig {
	t.Helper()
	s, e := Sign(secret, b)
	if e != 0 {
		t.Fatalf("%d signs %q: error %d", secret, b, e)
	}
	return s
}
