package field

import (
	"math"
	"math/big"
	"math/rand"
	"slices"
	"testing"

	"signatory/api"
)

// prime is Q, written out.
const prime = 1073741789

// edges are integers around multiples of Q and powers of 2, and at both ends of all integers.
func edges() (l []int) {
	// The largest multiple of Q that is an integer.
	const most = math.MaxInt / prime * prime
	for _, n := range []int{0, prime / 2, prime, 2 * prime, 3 * prime, prime * prime, most, 1 << 30, 1 << 31, 1 << 32, 1 << 60, 1 << 62} {
		for near := -2; near <= 2; near++ {
			l = append(l, n+near, -n-near)
		}
	}
	for far := range 3 {
		l = append(l, math.MaxInt-far, math.MinInt+far)
	}
	slices.Sort(l)
	return slices.Compact(l)
}

// someNumbers makes n integers of all sizes, by a fixed seed.
func someNumbers(n int) (l []int) {
	r := rand.New(rand.NewSource(int64(n)))
	for range n {
		l = append(l, anyNumber(r))
	}
	return l
}

func anyNumber(r *rand.Rand) int { return int(r.Uint64()) >> r.Intn(64) }

func exact(n int) *big.Int { return big.NewInt(int64(n)) }

// reduced is the number of the field for which an integer of any size stands.
func reduced(n *big.Int) int { return int(new(big.Int).Mod(n, exact(prime)).Int64()) }

func plus(a, b int) int { return reduced(new(big.Int).Add(exact(a), exact(b))) }

func less(a, b int) int { return reduced(new(big.Int).Sub(exact(a), exact(b))) }

func times(a, b int) int { return reduced(new(big.Int).Mul(exact(a), exact(b))) }

func toPower(a, n int) int {
	return int(new(big.Int).Exp(exact(reduced(exact(a))), exact(n), exact(prime)).Int64())
}

// inverted is the inverse of a, which does not stand for 0.
func inverted(a int) int { return reduced(new(big.Int).ModInverse(exact(a), exact(prime))) }

// valueOf is the value of a polynomial, each power by itself.
func valueOf(poly []int, at int) (y int) {
	for k, c := range poly {
		y = plus(y, times(c, toPower(at, k)))
	}
	return y
}

// solved returns the coefficients, as many as there are points, of the
// polynomial through points whose X are different: it solves the equations
// that say so. As no two X are equal, no element on the diagonal becomes 0.
func solved(l []api.Point) (poly []int) {
	var rows [][]int
	for _, p := range l {
		var row []int
		for k := range l {
			row = append(row, toPower(p.X, k))
		}
		rows = append(rows, append(row, p.Y))
	}
	for i, pivot := range rows {
		by := inverted(pivot[i])
		for k := range pivot {
			pivot[k] = times(pivot[k], by)
		}
		for at, row := range rows {
			if factor := row[i]; at != i {
				for k := range row {
					row[k] = less(row[k], times(factor, pivot[k]))
				}
			}
		}
	}
	for _, row := range rows {
		poly = append(poly, row[len(l)])
	}
	return poly
}

// equalX reports whether two of the points have X that stand for the same number.
func equalX(l []api.Point) bool {
	for i, p := range l {
		for _, q := range l[:i] {
			if less(p.X, q.X) == 0 {
				return true
			}
		}
	}
	return false
}

// somePoly makes a polynomial with n coefficients, which are integers of all sizes.
func somePoly(r *rand.Rand, n int) (poly []int) {
	for range n {
		poly = append(poly, anyNumber(r))
	}
	return poly
}

// somePoints makes n points whose X are different.
func somePoints(r *rand.Rand, n int) (l []api.Point) {
	for len(l) < n {
		if p := (api.Point{X: anyNumber(r), Y: anyNumber(r)}); !equalX(append(l, p)) {
			l = append(l, p)
		}
	}
	return l
}

// on returns points of a polynomial, with the X of l.
func on(poly []int, l []api.Point) (points []api.Point) {
	for _, p := range l {
		points = append(points, api.Point{X: p.X, Y: valueOf(poly, p.X)})
	}
	return points
}

// wantAt checks the value of the polynomial through some points.
func wantAt(t *testing.T, l []api.Point, at, want int) {
	t.Helper()
	if y, e := At(l, at); y != want || e != api.OK {
		t.Errorf("%d points, at %d: %d, error %d; not %d", len(l), at, y, e, want)
	}
}
