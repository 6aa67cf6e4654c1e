package group

import (
	"crypto/sha256"
	"math"
	"math/big"
	"math/rand"
	"slices"
	"testing"

	"signatory/api"
)

// The numbers of the group, written out.
const (
	modulus = 2147483579
	order   = 1073741789
)

// borders are integers around everything that the chapter names, and at both ends of all integers.
func borders() (l []int) {
	for _, n := range []int{0, order / 2, order, modulus, 2 * modulus, order * order, 1 << 31, 1 << 32, 1 << 60, math.MaxInt / order * order} {
		for d := -3; d <= 3; d++ {
			l = append(l, n+d, -n-d)
		}
	}
	l = append(l, math.MaxInt, math.MinInt, math.MinInt+1)
	slices.Sort(l)
	return slices.Compact(l)
}

func anyInt(r *rand.Rand) int { return int(r.Uint64()) >> r.Intn(64) }

// someInts makes n integers of all sizes, by a fixed seed.
func someInts(n int) []int {
	r := rand.New(rand.NewSource(int64(n)))
	l := make([]int, n)
	for i := range l {
		l[i] = anyInt(r)
	}
	return l
}

// someElements makes n elements, as squares, and puts those at the edges before them.
func someElements(n int) []int {
	r := rand.New(rand.NewSource(int64(n)))
	l := []int{1, 3, 4, 5, modulus - 2, modulus - 6, 536870895}
	for range n {
		root := 1 + r.Intn(modulus-1)
		l = append(l, timesModulus(root, root))
	}
	return l
}

func big64(n int) *big.Int { return big.NewInt(int64(n)) }

func timesModulus(a, b int) int {
	c := new(big.Int).Mul(big64(a), big64(b))
	return int(c.Mod(c, big64(modulus)).Int64())
}

// exponentOf is the number from 0 to Q - 1 that is congruent to n.
func exponentOf(n int) int { return int(new(big.Int).Mod(big64(n), big64(order)).Int64()) }

// raised is the power of a modulo P to n, which is not negative.
func raised(a, n int) int { return int(new(big.Int).Exp(big64(a), big64(n), big64(modulus)).Int64()) }

// isElement follows the definition: the power to Q is 1.
func isElement(x int) bool { return x >= 1 && x <= modulus-1 && raised(x, order) == 1 }

// hasRoot reports whether x, from 1 to P - 1, is a square, by looking for its root.
func hasRoot(x int) bool { return new(big.Int).ModSqrt(big64(x), big64(modulus)) != nil }

// elementFor is what Element promises, and its error.
func elementFor(n int) (x int, e api.Errno) {
	switch {
	case n < 1 || n > order:
		return 0, 1
	case isElement(n):
		return n, 0
	}
	return modulus - n, 0
}

// numberFor is what Number promises, and its error.
func numberFor(x int) (n int, e api.Errno) {
	switch {
	case !isElement(x):
		return 0, 100
	case x <= order:
		return x, 0
	}
	return modulus - x, 0
}

// hashed is what Hash promises, by Go's own SHA-256, and whether the highest bit was set.
func hashed(tag string, b []byte) (n int, high bool) {
	t := sha256.Sum256([]byte(tag))
	d := sha256.Sum256(append(t[:], b...))
	high = d[0] >= 128
	d[0] %= 128
	all := new(big.Int).SetBytes(d[:8])
	return int(all.Mod(all, big64(order)).Int64()), high
}

// mul, pow, element and number are the functions where no error is admitted.
func mul(t *testing.T, a, b int) int { t.Helper(); return fine(t)(Mul(a, b)) }

func pow(t *testing.T, a, n int) int { t.Helper(); return fine(t)(Pow(a, n)) }

func element(t *testing.T, n int) int { t.Helper(); return fine(t)(Element(n)) }

func number(t *testing.T, x int) int { t.Helper(); return fine(t)(Number(x)) }

func fine(t *testing.T) func(int, api.Errno) int {
	t.Helper()
	return func(n int, e api.Errno) int {
		t.Helper()
		if e != 0 {
			t.Fatalf("%d, error %d", n, e)
		}
		return n
	}
}

// wantGroup checks that a result is the error 100, with nothing else.
func wantGroup(t *testing.T, what string, n int, e api.Errno) {
	t.Helper()
	if n != 0 || e != 100 {
		t.Errorf("%s: %d, error %d", what, n, e)
	}
}
