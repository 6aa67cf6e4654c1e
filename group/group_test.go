package group

import (
	"bytes"
	"math"
	"math/rand"
	"slices"
	"strings"
	"testing"

	"signatory/api"
)

// What all tests here are about: two primes, an element that is not 1, so that
// it generates a group of prime order, and the errors of the chapter.
func TestGiven(t *testing.T) {
	if api.P != modulus || api.Q != order || modulus != 2*order+1 || api.G != 4 {
		t.Error(api.P, api.Q, api.G)
	}
	if !big64(modulus).ProbablyPrime(20) || !big64(order).ProbablyPrime(20) {
		t.Error("no primes")
	}
	if api.ErrArg != 1 || api.ErrGroup != 100 {
		t.Error(api.ErrArg, api.ErrGroup)
	}
}

// P10.1: elements, written out.
func TestValidWrittenOut(t *testing.T) {
	small := []int{1, 3, 4, 5, 7, 9, 11, 12, 15, 16, 17, 19, 20, 21, 25, 26, 27, 28, 31, 33, 35, 36, 37, 44, 45, 46, 47, 48, 49, 51, 55, 57, 58}
	for x := 1; x < 60; x++ {
		if in := slices.Contains(small, x); Valid(x) != in || Valid(modulus-x) == in {
			t.Error(x, Valid(x), Valid(modulus-x))
		}
	}
	for _, x := range []int{0, -1, -3, -4, modulus - 1, modulus, modulus + 1, modulus + 4, 4 - modulus, 2 * modulus, 2*modulus + 4, 1<<32 + 4, 1 << 62, math.MaxInt, math.MinInt, math.MinInt + 4} {
		if Valid(x) {
			t.Error(x)
		}
	}
}

// P10.1: Valid, against the definition.
func TestValid(t *testing.T) {
	l := append(borders(), someInts(5000)...)
	for n := range 2000 {
		l = append(l, n, modulus-n, order-n, order+n)
	}
	r := rand.New(rand.NewSource(1))
	for range 5000 {
		l = append(l, r.Intn(modulus))
	}
	for _, x := range l {
		if got, want := Valid(x), isElement(x); got != want {
			t.Errorf("%d: %t, not %t", x, got, want)
		}
	}
}

// P10.1: products, written out.
func TestMulWrittenOut(t *testing.T) {
	for _, x := range []struct{ a, b, want int }{
		{1, 1, 1},
		{4, 4, 16},
		{3, 5, 15},
		{1, modulus - 2, modulus - 2},
		{modulus - 2, modulus - 2, 4},
		{modulus - 2, 3, modulus - 6},
		{536870895, 4, 1},
		{1 << 30, 1 << 30, 536872085},
		{1 << 28, 1 << 28, 167772229},
	} {
		if c, e := Mul(x.a, x.b); c != x.want || e != api.OK {
			t.Errorf("%d times %d: %d, error %d; not %d", x.a, x.b, c, e, x.want)
		}
	}
}

// P10.1: products of pairs of elements.
func TestMul(t *testing.T) {
	l := someElements(100)
	for _, a := range l {
		for _, b := range l {
			if c, e := Mul(a, b); c != timesModulus(a, b) || e != api.OK {
				t.Errorf("%d times %d: %d, error %d", a, b, c, e)
			}
		}
	}
}

// P10.1: powers, written out.
func TestPowWrittenOut(t *testing.T) {
	for _, x := range []struct{ a, n, want int }{
		{4, 0, 1},
		{4, 1, 4},
		{4, 2, 16},
		{4, 15, 1 << 30},
		{4, 30, 536872085},
		{4, -1, 536870895},
		{4, order, 1},
		{4, order - 1, 536870895},
		{4, -order, 1},
		{4, 2 - order, 16},
		{4, -5 * order, 1},
		{4, order * order, 1},
		{4, order/2 + 1, modulus - 2},
		{9, order/2 + 1, 3},
		{1, math.MinInt, 1},
		{4, math.MinInt, 153070017},
		{4, math.MaxInt, 1896043643},
		{modulus - 2, math.MinInt, 494927580},
		{3, math.MaxInt, 1431021031},
		{3, -1, 715827860},
		{5, -1, 429496716},
		{7, 12345, 2117263286},
	} {
		if c, e := Pow(x.a, x.n); c != x.want || e != api.OK {
			t.Errorf("%d to %d: %d, error %d; not %d", x.a, x.n, c, e, x.want)
		}
	}
}

// P10.1: powers to integers of all sizes, and to all small ones.
func TestPow(t *testing.T) {
	l := append(borders(), someInts(200)...)
	for n := range 70 {
		l = append(l, n, -n, 1<<n, -1<<n)
	}
	for _, a := range someElements(30) {
		for _, n := range l {
			if c, e := Pow(a, n); c != raised(a, exponentOf(n)) || e != api.OK {
				t.Errorf("%d to %d: %d, error %d", a, n, c, e)
			}
		}
	}
}

// P10.1: only elements have products and powers, on both sides, whatever the
// other argument is.
func TestNoElement(t *testing.T) {
	l := append(borders(), someInts(200)...)
	for _, x := range l {
		if isElement(x) {
			continue
		}
		for _, a := range []int{1, 4, modulus - 2, 0, -1, modulus - 1, modulus, x, modulus - x, math.MinInt} {
			c, e := Mul(x, a)
			wantGroup(t, "Mul", c, e)
			c, e = Mul(a, x)
			wantGroup(t, "Mul", c, e)
		}
		for _, n := range []int{0, 1, 2, -1, order, math.MinInt, math.MaxInt} {
			c, e := Pow(x, n)
			wantGroup(t, "Pow", c, e)
		}
	}
}

// P10.2: elements of numbers and numbers of elements, written out.
func TestNumbersWrittenOut(t *testing.T) {
	for _, x := range []struct{ n, x int }{
		{1, 1},
		{2, modulus - 2},
		{3, 3},
		{4, 4},
		{6, modulus - 6},
		{7, 7},
		{8, modulus - 8},
		{order, order},
		{order - 1, order - 1},
		{order - 2, order - 2},
	} {
		if y, e := Element(x.n); y != x.x || e != api.OK {
			t.Errorf("the element of %d: %d, error %d", x.n, y, e)
		}
		if n, e := Number(x.x); n != x.n || e != api.OK {
			t.Errorf("the number of %d: %d, error %d", x.x, n, e)
		}
		n, e := Number(modulus - x.x)
		wantGroup(t, "the opposite", n, e)
	}
	for _, n := range []int{0, -1, -4, order + 1, order + 2, modulus, modulus + 1, 1 << 62, math.MaxInt, math.MinInt} {
		if x, e := Element(n); x != 0 || e != api.ErrArg {
			t.Errorf("the element of %d: %d, error %d", n, x, e)
		}
	}
	for _, x := range []int{0, 2, -1, -4, order + 1, order + 2, modulus - 1, modulus, modulus + 1, modulus + 4, math.MaxInt, math.MinInt} {
		n, e := Number(x)
		wantGroup(t, "Number", n, e)
	}
}

// P10.2: elements of numbers and numbers of elements, with their errors, against the definition.
func TestNumbers(t *testing.T) {
	l := append(borders(), someInts(3000)...)
	for n := range 1000 {
		l = append(l, n, order-n, order+n, modulus-n)
	}
	r := rand.New(rand.NewSource(2))
	for range 3000 {
		l = append(l, r.Intn(modulus))
	}
	for _, n := range l {
		want, err := elementFor(n)
		if x, e := Element(n); x != want || e != err {
			t.Errorf("the element of %d: %d, error %d; not %d, error %d", n, x, e, want, err)
		}
		want, err = numberFor(n)
		if x, e := Number(n); x != want || e != err {
			t.Errorf("the number of %d: %d, error %d; not %d, error %d", n, x, e, want, err)
		}
	}
}

// P10.3: hashes, written out. The highest bit is set in those of "tag" with
// bytes and of "sign" with b and d.
func TestHashWrittenOut(t *testing.T) {
	for _, x := range []struct {
		tag  string
		b    []byte
		want int
	}{
		{"", nil, 420901304},
		{"", []byte{}, 420901304},
		{"tag", nil, 653674108},
		{"tag", []byte{1, 2, 3}, 1062200706},
		{"tag", make([]byte, 100), 558181821},
		{"", []byte("tag"), 613123565},
		{"sign", []byte("a"), 385083217},
		{"sign", []byte("b"), 428991642},
		{"sign", []byte("c"), 246280038},
		{"sign", []byte("d"), 566431231},
		{"\xff\x00", []byte{0}, 132705569},
	} {
		if n := Hash(x.tag, x.b); n != x.want {
			t.Errorf("%q and %q: %d, not %d", x.tag, x.b, n, x.want)
		}
	}
}

// P10.3: hashes of tags and bytes of many lengths, with the highest bit and without it.
func TestHash(t *testing.T) {
	seen := map[bool]int{}
	r := rand.New(rand.NewSource(3))
	for n := range 300 {
		b := make([]byte, n*n/100)
		r.Read(b)
		for _, tag := range []string{"", "a", "tag", strings.Repeat("long", n), string(b)} {
			want, high := hashed(tag, b)
			seen[high]++
			if got := Hash(tag, b); got != want || got < 0 || got >= order {
				t.Errorf("%d bytes under %q: %d, not %d", len(b), tag, got, want)
			}
		}
	}
	if seen[true] < 100 || seen[false] < 100 {
		t.Error("highest bits:", seen)
	}
}

// P10.4: products are elements, and do not depend on order and brackets; 1 changes nothing.
func TestProducts(t *testing.T) {
	l := someElements(25)
	for _, a := range l {
		if mul(t, a, 1) != a || mul(t, 1, a) != a {
			t.Errorf("%d times 1", a)
		}
		for _, b := range l {
			ab := mul(t, a, b)
			if !Valid(ab) || !isElement(ab) || ab != mul(t, b, a) {
				t.Errorf("%d times %d: %d", a, b, ab)
			}
			for _, c := range l {
				if mul(t, ab, c) != mul(t, a, mul(t, b, c)) {
					t.Errorf("the brackets of %d, %d and %d", a, b, c)
				}
			}
		}
	}
}

// P10.4: the power to -1 is the inverse, and the power to Q is 1.
func TestInverses(t *testing.T) {
	for _, a := range someElements(1000) {
		inverse := pow(t, a, -1)
		if !isElement(inverse) || mul(t, a, inverse) != 1 || mul(t, inverse, a) != 1 || pow(t, inverse, -1) != a {
			t.Errorf("the inverse of %d: %d", a, inverse)
		}
		if pow(t, a, 0) != 1 || pow(t, a, 1) != a || pow(t, a, order) != 1 {
			t.Errorf("the order of %d", a)
		}
	}
}

// P10.4: powers to sums are products of powers, and powers of powers are powers
// to products, also where the sum or the product is too large for an integer.
func TestPowers(t *testing.T) {
	l := append(borders(), someInts(30)...)
	for _, a := range someElements(0) {
		for _, m := range l {
			am := pow(t, a, m)
			for _, n := range l {
				x, y := exponentOf(m), exponentOf(n)
				sum, product := x+y, x*y
				if !isElement(am) || pow(t, a, sum) != mul(t, am, pow(t, a, n)) || pow(t, am, n) != pow(t, a, product) {
					t.Errorf("%d to %d and %d", a, m, n)
				}
			}
		}
		for _, b := range someElements(0) {
			for _, n := range l {
				if pow(t, mul(t, a, b), n) != mul(t, pow(t, a, n), pow(t, b, n)) {
					t.Errorf("%d times %d, to %d", a, b, n)
				}
			}
		}
	}
}

// P10.4: all squares are elements, and so is nothing else.
func TestSquares(t *testing.T) {
	r := rand.New(rand.NewSource(4))
	for i := range 10000 {
		x := 1 + i
		if i >= 2000 {
			x = 1 + r.Intn(modulus-1)
		}
		square := timesModulus(x, x)
		if !Valid(square) || Valid(modulus-square) {
			t.Errorf("the square of %d: %d", x, square)
		}
		if Valid(x) != hasRoot(x) || Valid(x) == Valid(modulus-x) {
			t.Errorf("%d: %t", x, Valid(x))
		}
		if Valid(x) {
			// The root that is an element itself: its exponent is half of Q + 1.
			if root := pow(t, x, order/2+1); mul(t, root, root) != x {
				t.Errorf("the root of %d: %d", x, root)
			}
		}
	}
}

// P10.4: every element is a power of G, and of every other element but 1. The
// exponent is found by steps of two sizes.
func TestGenerators(t *testing.T) {
	const wide = 1 << 15
	for _, g := range []int{api.G, 3, modulus - 2} {
		small, x := map[int]int{}, 1
		for n := range wide {
			small[x] = n
			x = mul(t, x, g)
		}
		if len(small) != wide {
			t.Fatal("equal powers")
		}
		back := pow(t, g, -wide)
		for _, want := range someElements(10) {
			x, n, found := want, 0, false
			for high := 0; high < wide && !found; high++ {
				var low int
				if low, found = small[x]; found {
					n = high*wide + low
				}
				x = mul(t, x, back)
			}
			if !found || n >= order || pow(t, g, n) != want {
				t.Errorf("the exponent of %d to %d: %d, %t", want, g, n, found)
			}
		}
	}
}

// P10.5: Element and Number are inverse to each other.
func TestInverseToEachOther(t *testing.T) {
	r := rand.New(rand.NewSource(5))
	for i := range 10000 {
		n := 1 + r.Intn(order)
		switch {
		case i < 2000:
			n = i + 1
		case i < 4000:
			n = order - (i - 2000)
		}
		x := element(t, n)
		if !isElement(x) || x != n && x != modulus-n || number(t, x) != n {
			t.Errorf("%d: the element %d, the number %d", n, x, number(t, x))
		}
	}
	for _, x := range someElements(10000) {
		if n := number(t, x); n < 1 || n > order || element(t, n) != x {
			t.Errorf("%d: the number %d, the element %d", x, n, element(t, n))
		}
	}
}

// P10.5: different numbers have different elements: none is missing or occurs
// twice at either end.
func TestDifferent(t *testing.T) {
	from := map[int]int{}
	for i := range 3000 {
		for _, n := range []int{i + 1, order - i} {
			x := element(t, n)
			if m, ok := from[x]; ok {
				t.Errorf("%d is the element of %d and of %d", x, m, n)
			}
			from[x] = n
		}
	}
	if len(from) != 6000 {
		t.Error(len(from))
	}
}

// P10.1: squares are yielded as long as they are asked for, and again.
func TestSquaresYielded(t *testing.T) {
	want := []int{4, 16, 256, 65536, 1<<32 - 2*modulus}
	for many := range 6 {
		seq := squares(4, many)
		for range 2 {
			if got := slices.Collect(seq); !slices.Equal(got, want[:many]) {
				t.Error(many, got)
			}
			for x := range seq {
				if x == 16 {
					break
				}
			}
		}
	}
}

// P10.1: exponents of any number of integers.
func TestExponent(t *testing.T) {
	if exponent() != 0 {
		t.Error(exponent())
	}
	l, want := append(borders(), someInts(200)...), 0
	for i, n := range l {
		want = (want + exponentOf(n)) % order
		if got := exponent(n); got != exponentOf(n) {
			t.Errorf("%d: %d", n, got)
		}
		if got := exponent(l[:i+1]...); got != want {
			t.Errorf("%d integers: %d, not %d", i+1, got, want)
		}
	}
}

// R2, R6: Hash does not change its arguments, or the memory behind them; equal calls return equal results.
func TestPure(t *testing.T) {
	b := bytes.Repeat([]byte("memory"), 50)
	kept := bytes.Clone(b)
	for n := range b {
		first := Hash("tag", b[:n])
		Hash("other", b[n:])
		if again := Hash("tag", b[:n:n]); again != first {
			t.Errorf("%d bytes: %d and %d", n, first, again)
		}
	}
	if !bytes.Equal(b, kept) {
		t.Error("the arguments have changed")
	}
}

// P10.1 to P10.5: whatever the integers and the bytes are, all functions return what the models do.
func FuzzGroup(f *testing.F) {
	f.Add(4, 16, -1, "tag", []byte{1})
	f.Add(modulus-2, order, math.MinInt, "", []byte(nil))
	f.Add(0, modulus, math.MaxInt, "\xff", []byte("b"))
	f.Add(order+1, modulus-1, order, "t", make([]byte, 64))
	f.Fuzz(func(t *testing.T, a, b, n int, tag string, text []byte) {
		// Nearly all integers are too large: the others are tried as well.
		r := rand.New(rand.NewSource(int64(a)))
		for _, x := range []int{a, b, n, exponentOf(a), exponentOf(b), r.Intn(modulus)} {
			y := timesModulus(x, x)
			if Valid(x) != isElement(x) || y != 0 && !Valid(y) {
				t.Fatalf("%d and %d: %t and %t", x, y, Valid(x), Valid(y))
			}
			want, err := elementFor(x)
			if z, e := Element(x); z != want || e != err {
				t.Fatalf("the element of %d: %d, error %d", x, z, e)
			}
			want, err = numberFor(x)
			if z, e := Number(x); z != want || e != err {
				t.Fatalf("the number of %d: %d, error %d", x, z, e)
			}
			if z, e := Mul(x, y); isElement(x) && (z != timesModulus(x, y) || e != 0) || !isElement(x) && (z != 0 || e != 100) {
				t.Fatalf("%d times %d: %d, error %d", x, y, z, e)
			}
			if z, e := Pow(y, n); isElement(y) && (z != raised(y, exponentOf(n)) || e != 0) || !isElement(y) && (z != 0 || e != 100) {
				t.Fatalf("%d to %d: %d, error %d", y, n, z, e)
			}
		}
		if want, _ := hashed(tag, text); Hash(tag, text) != want {
			t.Fatalf("%q and %q: %d, not %d", tag, text, Hash(tag, text), want)
		}
	})
}
