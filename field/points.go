package field

import (
	"iter"

	"signatory/api"
)

// different reports whether the X of all points stand for different numbers.
func different(l []api.Point) bool {
	seen := map[int]bool{}
	for _, p := range l {
		x := Mod(p.X)
		if seen[x] {
			return false
		}
		seen[x] = true
	}
	return true
}

// others yields the points of l without the point i.
func others(l []api.Point, i int) iter.Seq[api.Point] {
	return func(yield func(api.Point) bool) {
		for k, p := range l {
			if k != i && !yield(p) {
				return
			}
		}
	}
}

// weight returns how much the Y of the point i counts at at: the value of the
// polynomial that is 1 at the X of this point, and 0 at those of all others.
func weight(l []api.Point, i, at int) int {
	above, below := 1, 1
	for p := range others(l, i) {
		above = Mul(above, difference(at, p.X))
		below = Mul(below, difference(l[i].X, p.X))
	}
	// As the X are different, below is not 0: there is no error.
	inverse, _ := Inverse(below)
	return Mul(above, inverse)
}
