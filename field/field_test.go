package field

import (
	"math"
	"math/rand"
	"slices"
	"testing"

	"signatory/api"
)

// P9.1: the numbers for which integers stand, written out.
func TestModWrittenOut(t *testing.T) {
	for _, x := range []struct{ n, want int }{
		{0, 0},
		{1, 1},
		{1073741788, 1073741788},
		{1073741789, 0},
		{1073741790, 1},
		{-1, 1073741788},
		{-1073741788, 1},
		{-1073741789, 0},
		{-1073741790, 1073741788},
		{2147483578, 0},
		{1 << 30, 35},
		{1 << 60, 1225},
		{math.MaxInt, 9799},
		{math.MinInt, 1073731989},
	} {
		if got := Mod(x.n); got != x.want {
			t.Errorf("%d: %d, not %d", x.n, got, x.want)
		}
	}
}

// P9.1: Mod, against integers of any size.
func TestMod(t *testing.T) {
	for _, n := range append(edges(), someNumbers(5000)...) {
		if got, want := Mod(n), reduced(exact(n)); got != want {
			t.Errorf("%d: %d, not %d", n, got, want)
		}
	}
}

// P9.1: sums and products of all pairs of edges, and of others.
func TestAddMul(t *testing.T) {
	l := append(edges(), someNumbers(100)...)
	for _, a := range l {
		for _, b := range l {
			if got, want := Add(a, b), plus(a, b); got != want {
				t.Errorf("%d + %d: %d, not %d", a, b, got, want)
			}
			if got, want := Mul(a, b), times(a, b); got != want {
				t.Errorf("%d * %d: %d, not %d", a, b, got, want)
			}
		}
	}
	if Mul(-1, -1) != 1 || Add(-1, 0) != prime-1 {
		t.Error("the examples")
	}
}

// P9.1: inverses of small numbers, of large ones, and of edges.
func TestInverse(t *testing.T) {
	l := append(edges(), someNumbers(2000)...)
	for n := range 2000 {
		l = append(l, n, -n, prime/2+n)
	}
	for _, n := range l {
		want, err := 0, api.ErrField
		if reduced(exact(n)) != 0 {
			want, err = inverted(n), api.OK
		}
		x, e := Inverse(n)
		if x != want || e != err {
			t.Errorf("%d: %d, error %d; not %d, error %d", n, x, e, want, err)
		}
		if e == api.OK && (times(x, n) != 1 || Mul(n, x) != 1) {
			t.Errorf("%d times %d is not 1", n, x)
		}
	}
	if x, e := Inverse(2); x != 536870895 || e != api.OK {
		t.Error("the inverse of 2:", x, e)
	}
}

// P9.1: what stands for 0 has no inverse.
func TestInverseOfZero(t *testing.T) {
	const most = math.MaxInt / prime * prime
	for _, n := range []int{0, prime, -prime, 2 * prime, 7 * prime, -prime * prime, most, -most} {
		if x, e := Inverse(n); x != 0 || e != api.ErrField {
			t.Errorf("%d: %d, error %d", n, x, e)
		}
	}
}

// P9.1: powers, which inverses are.
func TestPower(t *testing.T) {
	for _, x := range []int{0, 1, 2, 3, -1, prime - 2, prime, math.MinInt, math.MaxInt} {
		for _, n := range []uint{0, 1, 2, 3, 4, 7, 8, 1 << 29, prime - 2, prime - 1, prime, 1 << 31} {
			if got, want := power(x, n), toPower(x, int(n)); got != want {
				t.Errorf("%d to %d: %d, not %d", x, n, got, want)
			}
		}
	}
}

// P9.1: sums of any number of integers.
func TestSum(t *testing.T) {
	if sum() != 0 {
		t.Error("a sum of nothing")
	}
	l, want := append(edges(), someNumbers(300)...), 0
	for i, n := range l {
		want = plus(want, n)
		if got := sum(l[:i+1]...); got != want {
			t.Errorf("%d numbers: %d, not %d", i+1, got, want)
		}
	}
}

// P9.2: values, written out.
func TestValueWrittenOut(t *testing.T) {
	for i, x := range []struct {
		poly     []int
		at, want int
	}{
		{nil, 7, 0},
		{[]int{}, 7, 0},
		{[]int{1, 2, 3}, 10, 321},
		{[]int{1, 2, 3}, 0, 1},
		{[]int{1, 2, 3}, 1, 6},
		{[]int{1, 2, 3}, -1, 2},
		{[]int{0, 0, 0}, 5, 0},
		{[]int{7}, math.MinInt, 7},
		{[]int{-7}, 0, prime - 7},
		{[]int{prime}, 3, 0},
		{[]int{5, 1, 0, 0}, 4, 9},
		{[]int{0, 1}, prime + 4, 4},
		{[]int{0, 0, 1}, prime - 1, 1},
		{[]int{9, prime, -prime}, 1000, 9},
		{[]int{math.MinInt, math.MinInt}, 1, 1073722189},
	} {
		if y := Value(x.poly, x.at); y != x.want {
			t.Errorf("%d: %d, not %d", i, y, x.want)
		}
	}
}

// P9.2: values of polynomials of many lengths, with integers of all sizes.
func TestValue(t *testing.T) {
	r := rand.New(rand.NewSource(1))
	ats := append(edges(), someNumbers(20)...)
	for n := range 70 {
		poly := somePoly(r, n)
		for _, at := range ats {
			if y, want := Value(poly, at), valueOf(poly, at); y != want {
				t.Errorf("%d coefficients, at %d: %d, not %d", n, at, y, want)
			}
		}
	}
	for _, at := range ats {
		if y, want := Value(edges(), at), valueOf(edges(), at); y != want {
			t.Errorf("edges, at %d: %d, not %d", at, y, want)
		}
	}
}

// P9.2: a polynomial may have more coefficients than points are allowed.
func TestValueLong(t *testing.T) {
	ones := make([]int, 200000)
	for i := range ones {
		ones[i] = 1
	}
	for _, at := range []int{2, -3, 12345, math.MinInt} {
		// The sum of the powers is (at^n - 1) / (at - 1).
		want := times(less(toPower(at, len(ones)), 1), inverted(less(at, 1)))
		if y := Value(ones, at); y != want {
			t.Errorf("at %d: %d, not %d", at, y, want)
		}
	}
	if y := Value(ones, 1); y != 200000 {
		t.Error("at 1:", y)
	}
}

// P9.2: values through points, written out.
func TestAtWrittenOut(t *testing.T) {
	for i, x := range []struct {
		l        []api.Point
		at, want int
	}{
		{nil, 7, 0},
		{[]api.Point{}, 0, 0},
		{[]api.Point{{X: 1, Y: 3}, {X: 2, Y: 5}}, 0, 1},
		{[]api.Point{{X: 1, Y: 3}, {X: 2, Y: 5}}, 3, 7},
		{[]api.Point{{X: 4, Y: 15}}, 99, 15},
		{[]api.Point{{X: 4, Y: -1}}, math.MinInt, prime - 1},
		{[]api.Point{{X: 0, Y: 7}}, 0, 7},
		{[]api.Point{{X: 0, Y: 0}, {X: 1, Y: 1}, {X: -1, Y: 1}}, 12, 144},
		{[]api.Point{{X: 0, Y: 0}, {X: 1, Y: 1}, {X: 2, Y: 2}}, 12, 12},
		{[]api.Point{{X: 0, Y: 0}, {X: 2, Y: 1}}, 1, 536870895},
		{[]api.Point{{X: 1, Y: 109}, {X: 2, Y: 118}}, 0, 100},
		{[]api.Point{{X: 3, Y: 127}, {X: 1, Y: 109}}, 0, 100},
		{[]api.Point{{X: 2 + prime, Y: 118}, {X: 3 - prime, Y: 127 + 5*prime}}, prime, 100},
	} {
		if y, e := At(x.l, x.at); y != x.want || e != api.OK {
			t.Errorf("%d: %d, error %d; not %d", i, y, e, x.want)
		}
	}
}

// P9.2: values through any points, of which the model solves the equations.
func TestAt(t *testing.T) {
	r := rand.New(rand.NewSource(2))
	for n := range 13 {
		for range 20 {
			l := somePoints(r, n)
			poly := solved(l)
			for _, at := range append(somePoly(r, 5), 0, 1, -1, prime, math.MinInt, math.MaxInt) {
				wantAt(t, l, at, valueOf(poly, at))
			}
		}
	}
	for _, n := range []int{31, 32, 33, 63, 64} {
		l := somePoints(r, n)
		poly := solved(l)
		for _, at := range append(edges(), l[n-1].X) {
			wantAt(t, l, at, valueOf(poly, at))
		}
	}
}

// P9.2: the X of points may be any integers that stand for different numbers.
func TestAtEdges(t *testing.T) {
	var l []api.Point
	for i, x := range edges() {
		if p := (api.Point{X: x, Y: edges()[len(edges())-1-i]}); len(l) < 64 && !equalX(append(l, p)) {
			l = append(l, p)
		}
	}
	poly := solved(l)
	for _, at := range edges() {
		wantAt(t, l, at, valueOf(poly, at))
	}
}

// P9.2: too many points are too many, whether their X are different or not.
func TestAtLimit(t *testing.T) {
	long := make([]api.Point, 66)
	for i := range long {
		long[i] = api.Point{X: i, Y: 4}
	}
	wantAt(t, long[:64], 77, 4)
	for i, l := range [][]api.Point{long[:65], long, make([]api.Point, 65), make([]api.Point, 1000)} {
		if y, e := At(l, 77); y != 0 || e != api.ErrLimit {
			t.Errorf("%d: %d, error %d", i, y, e)
		}
	}
	if y, e := At(make([]api.Point, 64), 77); y != 0 || e != api.ErrField {
		t.Errorf("64 equal points: %d, error %d", y, e)
	}
}

// P9.2: X that stand for one number, at any two places; it does not matter whether the Y differ.
func TestAtEqual(t *testing.T) {
	r := rand.New(rand.NewSource(3))
	kept := somePoints(r, 64)
	for i := range kept {
		for k := range i {
			for _, y := range []int{kept[i].Y, kept[i].Y + prime, kept[i].Y + 1} {
				l := slices.Clone(kept)
				l[k] = api.Point{X: Mod(kept[i].X) + (i%5-2)*prime, Y: y}
				if y, e := At(l, kept[0].X); y != 0 || e != api.ErrField {
					t.Errorf("the places %d and %d: %d, error %d", k, i, y, e)
				}
			}
		}
	}
	for i, l := range [][]api.Point{
		{{X: 1, Y: 5}, {X: 1, Y: 5}},
		{{X: 1, Y: 5}, {X: 1, Y: 6}},
		{{X: 0}, {X: prime}},
		{{X: -1}, {X: prime - 1}},
		{{X: math.MinInt}, {X: Mod(math.MinInt)}},
		{{X: math.MinInt}, {X: math.MinInt}},
		{{X: math.MaxInt}, {X: 9799 - prime}},
	} {
		for _, at := range []int{0, 1, -1, math.MinInt} {
			if y, e := At(l, at); y != 0 || e != api.ErrField {
				t.Errorf("%d, at %d: %d, error %d", i, at, y, e)
			}
		}
	}
	// These look alike, but stand for different numbers.
	wantAt(t, []api.Point{{X: math.MinInt, Y: 1}, {X: math.MaxInt, Y: 1}}, 0, 1)
	wantAt(t, []api.Point{{X: 1, Y: 1}, {X: 1 + 1<<32, Y: 1}, {X: -1, Y: 1}}, 0, 1)
}

// P9.3: sums and products do not depend on order and brackets, and products of
// sums are sums of products; 0 and 1 change nothing.
func TestLaws(t *testing.T) {
	l := append(edges(), someNumbers(10)...)
	for _, a := range l {
		if Add(a, 0) != Mod(a) || Mul(a, 1) != Mod(a) || Mul(a, 0) != 0 || Add(a, Mul(a, -1)) != 0 {
			t.Errorf("%d", a)
		}
		for _, b := range l {
			if Add(a, b) != Add(b, a) || Mul(a, b) != Mul(b, a) {
				t.Errorf("%d and %d", a, b)
			}
			for _, c := range l {
				if Add(Add(a, b), c) != Add(a, Add(b, c)) || Mul(Mul(a, b), c) != Mul(a, Mul(b, c)) {
					t.Errorf("the brackets of %d, %d and %d", a, b, c)
				}
				if Mul(Add(a, b), c) != Add(Mul(a, c), Mul(b, c)) {
					t.Errorf("%d and %d, times %d", a, b, c)
				}
			}
		}
	}
}

// P9.3: a product is 0 only if one of the numbers is.
func TestProductZero(t *testing.T) {
	l := append(edges(), someNumbers(200)...)
	for _, a := range l {
		for _, b := range l {
			if zero := Mod(a) == 0 || Mod(b) == 0; (Mul(a, b) == 0) != zero {
				t.Errorf("%d times %d is %d", a, b, Mul(a, b))
			}
		}
	}
}

// P9.4: at the X of a point, At returns its Y, as a number of the field.
func TestAtPoints(t *testing.T) {
	r := rand.New(rand.NewSource(4))
	for n := 1; n <= 64; n++ {
		l := somePoints(r, n)
		for _, p := range l {
			wantAt(t, l, p.X, reduced(exact(p.Y)))
			wantAt(t, l, Mod(p.X)-prime, reduced(exact(p.Y)))
		}
	}
}

// P9.4: as many values as a polynomial has coefficients determine it; one value less does not.
func TestDetermined(t *testing.T) {
	r := rand.New(rand.NewSource(5))
	for n := range 65 {
		poly := somePoly(r, n)
		l := on(poly, somePoints(r, n))
		for _, at := range append(somePoly(r, 5), 0, 1, math.MinInt) {
			wantAt(t, l, at, Value(poly, at))
		}
		if n == 0 || Mod(poly[n-1]) == 0 {
			continue
		}
		if y, e := At(l[1:], l[0].X); e != api.OK || y == l[0].Y {
			t.Errorf("%d coefficients, %d points: %d, error %d", n, n-1, y, e)
		}
	}
}

// orders returns all orders of l.
func orders(l []api.Point) (all [][]api.Point) {
	if len(l) == 0 {
		return [][]api.Point{nil}
	}
	for i, p := range l {
		for _, rest := range orders(slices.Delete(slices.Clone(l), i, i+1)) {
			all = append(all, append(rest, p))
		}
	}
	return all
}

// P9.5: the order of the points does not matter.
func TestOrder(t *testing.T) {
	r := rand.New(rand.NewSource(6))
	l := somePoints(r, 5)
	y, e := At(l, 12)
	if all := orders(l); len(all) != 120 || e != api.OK {
		t.Fatal(len(all), e)
	}
	for _, x := range orders(l) {
		wantAt(t, x, 12, y)
	}
	long := somePoints(r, 64)
	y, e = At(long, -5)
	for range 50 {
		r.Shuffle(64, func(i, k int) { long[i], long[k] = long[k], long[i] })
		wantAt(t, long, -5, y)
	}
	if e != api.OK {
		t.Error(e)
	}
}

// P9.5: a further point on the same polynomial changes nothing, and one beside it does.
func TestFurther(t *testing.T) {
	r := rand.New(rand.NewSource(7))
	for n := range 64 {
		all := somePoints(r, n+2)
		l, at, x := all[:n], all[n].X, all[n+1].X
		y, e := At(l, x)
		before, f := At(l, at)
		if e != api.OK || f != api.OK {
			t.Fatal(e, f)
		}
		wantAt(t, append(slices.Clip(l), api.Point{X: x, Y: y}), at, before)
		if after, e := At(append(slices.Clip(l), api.Point{X: x, Y: y + 1}), at); e != api.OK || after == before {
			t.Errorf("%d points, and one beside: %d, error %d", n, after, e)
		}
	}
}

// P9.5: values of sums of polynomials are sums of values, also through points.
func TestSums(t *testing.T) {
	r := rand.New(rand.NewSource(8))
	for n := range 65 {
		p, q := somePoly(r, n), somePoly(r, n/2)
		both := slices.Clone(p)
		for i, c := range q {
			both[i] = Add(p[i], c)
		}
		a, b := somePoints(r, n), somePoly(r, n)
		together := slices.Clone(a)
		other := slices.Clone(a)
		for i := range a {
			other[i].Y = b[i]
			together[i].Y = Add(a[i].Y, b[i])
		}
		for _, at := range append(somePoly(r, 10), 0, 1, -1, math.MinInt, math.MaxInt) {
			if y, want := Value(both, at), Add(Value(p, at), Value(q, at)); y != want {
				t.Errorf("%d coefficients, at %d: %d, not %d", n, at, y, want)
			}
			y, e := At(a, at)
			z, f := At(other, at)
			if e != api.OK || f != api.OK {
				t.Error(e, f)
			}
			wantAt(t, together, at, Add(y, z))
		}
	}
}

// P9.2: the other points are yielded as long as they are asked for, and again.
func TestOthers(t *testing.T) {
	l := []api.Point{{X: 0}, {X: 1}, {X: 2}, {X: 3}}
	for i := range l {
		seq := others(l, i)
		for range 2 {
			if got, want := slices.Collect(seq), slices.Delete(slices.Clone(l), i, i+1); !slices.Equal(got, want) {
				t.Errorf("without %d: %v", i, got)
			}
			for p := range seq {
				if p.X > 0 {
					break
				}
			}
		}
	}
}

// R2, R6: no call changes its arguments, or the memory behind them; equal calls return equal results.
func TestPure(t *testing.T) {
	r := rand.New(rand.NewSource(9))
	points, poly := somePoints(r, 20), somePoly(r, 20)
	keptPoints, keptPoly := slices.Clone(points), slices.Clone(poly)
	for n := range 20 {
		y, e := At(points[:n], 3)
		v := Value(poly[:n], 3)
		At(points[:n], math.MinInt)
		At(append(points[:n:n], points[0], points[0]), 3)
		Value(poly, 4)
		again, f := At(points[:n], 3)
		if again != y || e != api.OK || f != api.OK || Value(poly[:n], 3) != v {
			t.Errorf("%d: %d and %d, errors %d and %d", n, y, again, e, f)
		}
	}
	if !slices.Equal(points, keptPoints) || !slices.Equal(poly, keptPoly) {
		t.Error("the arguments have changed")
	}
}

// P9.2, P9.4: whatever the points are, At returns what the model does.
func FuzzAt(f *testing.F) {
	f.Add(int64(1), 3, 0, 1, 0)
	f.Add(int64(2), 8, prime, math.MinInt, 7)
	f.Add(int64(3), 64, -1, 0, 64)
	f.Add(int64(4), 65, 5, 5, 2)
	f.Fuzz(func(t *testing.T, seed int64, many, at, shift, place int) {
		r := rand.New(rand.NewSource(seed))
		var l []api.Point
		for range uint(many) % 67 {
			l = append(l, api.Point{X: anyNumber(r), Y: anyNumber(r)})
		}
		if len(l) > 0 {
			l[uint(place)%uint(len(l))].X = l[0].X + shift
		}
		y, e := At(l, at)
		switch {
		case len(l) > 64:
			if y != 0 || e != api.ErrLimit {
				t.Fatalf("%d points: %d, error %d", len(l), y, e)
			}
		case equalX(l):
			if y != 0 || e != api.ErrField {
				t.Fatalf("equal X: %d, error %d", y, e)
			}
		default:
			wantAt(t, l, at, valueOf(solved(l), at))
			for _, p := range l {
				wantAt(t, l, p.X, reduced(exact(p.Y)))
			}
		}
	})
}
