package codec

import (
	"bytes"
	"math"
	"math/rand"
	"slices"
	"testing"

	"signatory/api"
)

func number(n int) api.Value { return api.Value{Kind: api.IntV, N: n} }

func text(s string) api.Value { return api.Value{Kind: api.TextV, S: s} }

func list(l ...api.Value) api.Value { return api.Value{Kind: api.ListV, L: l} }

// nest puts v into as many lists as levels says, one within the other.
func nest(v api.Value, levels int) api.Value {
	for range levels {
		v = list(v)
	}
	return v
}

// join puts bytes and pieces of bytes together.
func join(pieces ...[]byte) []byte { return slices.Concat(pieces...) }

func times(n int, b ...byte) []byte { return bytes.Repeat(b, n) }

type encoded struct {
	name string
	v    api.Value
	b    []byte
}

// encodings are values with their encodings, worked out by hand from the chapter.
func encodings() []encoded {
	return []encoded{
		{"0", number(0), []byte{1, 0}},
		{"-1", number(-1), []byte{1, 1}},
		{"1", number(1), []byte{1, 2}},
		{"-3", number(-3), []byte{1, 5}},
		{"the greatest int with one digit", number(63), []byte{1, 126}},
		{"the least int with one digit", number(-64), []byte{1, 127}},
		{"the first int with two digits", number(64), []byte{1, 128, 1}},
		{"the first negative int with two digits", number(-65), []byte{1, 129, 1}},
		{"100", number(100), []byte{1, 200, 1}},
		{"the greatest int with two digits", number(8191), []byte{1, 254, 127}},
		{"the least int with two digits", number(-8192), []byte{1, 255, 127}},
		{"the first int with three digits", number(8192), []byte{1, 128, 128, 1}},
		{"a power of two", number(1 << 40), []byte{1, 128, 128, 128, 128, 128, 64}},
		{"the greatest int with nine digits", number(1<<62 - 1), join([]byte{1, 254}, times(7, 255), []byte{127})},
		{"the least int with nine digits", number(-1 << 62), join([]byte{1}, times(8, 255), []byte{127})},
		{"the first int with ten digits", number(1 << 62), join([]byte{1}, times(9, 128), []byte{1})},
		{"the greatest int", number(math.MaxInt), join([]byte{1, 254}, times(8, 255), []byte{1})},
		{"the least int", number(math.MinInt), join([]byte{1}, times(9, 255), []byte{1})},
		{"the empty text", text(""), []byte{2, 0}},
		{"ab", text("ab"), []byte{2, 2, 97, 98}},
		{"a text of bytes that are no characters", text("\x00\xff\x80"), []byte{2, 3, 0, 255, 128}},
		{"a text of several bytes a character", text("é"), []byte{2, 2, 0xc3, 0xa9}},
		{"127 bytes", text(string(times(127, 'x'))), join([]byte{2, 127}, times(127, 'x'))},
		{"128 bytes", text(string(times(128, 'x'))), join([]byte{2, 128, 1}, times(128, 'x'))},
		{"16384 bytes", text(string(times(16384, 'x'))), join([]byte{2, 128, 128, 1}, times(16384, 'x'))},
		{"the empty list", list(), []byte{3, 0}},
		{"the list of 100 and ab", list(number(100), text("ab")), []byte{3, 2, 1, 200, 1, 2, 2, 97, 98}},
		{"lists in a list", list(list(), list(number(0)), list()), []byte{3, 3, 3, 0, 3, 1, 1, 0, 3, 0}},
		{"127 elements", list(slices.Repeat([]api.Value{number(0)}, 127)...), join([]byte{3, 127}, times(127, 1, 0))},
		{"128 elements", list(slices.Repeat([]api.Value{number(0)}, 128)...), join([]byte{3, 128, 1}, times(128, 1, 0))},
		{"16 lists", nest(list(), 15), join(times(15, 3, 1), []byte{3, 0})},
		{"an int in 16 lists", nest(number(7), 16), join(times(16, 3, 1), []byte{1, 14})},
		{"a text in 16 lists, after a shallow list", list(list(), nest(text("a"), 15)), join([]byte{3, 2, 3, 0}, times(15, 3, 1), []byte{2, 1, 97})},
	}
}

// P1.1: Check, Encode and Size accept what is well-formed and not too deep.
func TestEncode(t *testing.T) {
	for _, x := range encodings() {
		if e := Check(x.v); e != api.OK {
			t.Errorf("%s: Check: %d", x.name, e)
		}
		if b, e := Encode(x.v); e != api.OK || !bytes.Equal(b, x.b) {
			t.Errorf("%s: Encode: %v %d", x.name, b, e)
		}
		if n, e := Size(x.v); e != api.OK || n != len(x.b) {
			t.Errorf("%s: Size: %d %d", x.name, n, e)
		}
	}
}

// P1.1: an empty slice is as good as nil, also where a field must not be used.
func TestEncodeEmptySlices(t *testing.T) {
	none := []api.Value{}
	for _, x := range []encoded{
		{"int", api.Value{Kind: api.IntV, N: 1, L: none}, []byte{1, 2}},
		{"text", api.Value{Kind: api.TextV, S: "a", L: none}, []byte{2, 1, 97}},
		{"list", api.Value{Kind: api.ListV, L: none}, []byte{3, 0}},
	} {
		if b, e := Encode(x.v); e != api.OK || !bytes.Equal(b, x.b) {
			t.Errorf("%s: Encode: %v %d", x.name, b, e)
		}
	}
}

// P1.1: Check, Encode and Size refuse everything else, with one error; what is
// not well-formed is refused before what is too deep.
func TestEncodeErrors(t *testing.T) {
	l := []api.Value{number(1)}
	for _, x := range []struct {
		name string
		v    api.Value
		want api.Errno
	}{
		{"no kind", api.Value{}, api.ErrArg},
		{"no kind, with fields", api.Value{N: 1, S: "a", L: l}, api.ErrArg},
		{"a kind above the last one", api.Value{Kind: 4}, api.ErrArg},
		{"a kind below the first one", api.Value{Kind: -1}, api.ErrArg},
		{"a kind that is 1 in its last byte", api.Value{Kind: 257}, api.ErrArg},
		{"the greatest kind", api.Value{Kind: math.MaxInt}, api.ErrArg},
		{"the least kind", api.Value{Kind: math.MinInt}, api.ErrArg},
		{"an int with a text", api.Value{Kind: api.IntV, S: "a"}, api.ErrArg},
		{"an int with a list", api.Value{Kind: api.IntV, L: l}, api.ErrArg},
		{"a text with a number", api.Value{Kind: api.TextV, N: 1}, api.ErrArg},
		{"a text with a list", api.Value{Kind: api.TextV, L: l}, api.ErrArg},
		{"a list with a number", api.Value{Kind: api.ListV, N: -1}, api.ErrArg},
		{"a list with a text", api.Value{Kind: api.ListV, S: "a", L: l}, api.ErrArg},
		{"a wrong first element", list(api.Value{}, number(1)), api.ErrArg},
		{"a wrong last element", list(number(1), api.Value{Kind: 4}), api.ErrArg},
		{"a wrong element in 16 lists", nest(api.Value{Kind: api.IntV, S: "a"}, 16), api.ErrArg},
		{"17 lists", nest(list(), 16), api.ErrLimit},
		{"an int in 17 lists", nest(number(1), 17), api.ErrLimit},
		{"17 lists, before a shallow list", list(nest(list(), 15), list()), api.ErrLimit},
		{"17 lists, after a shallow list", list(list(), nest(list(), 15)), api.ErrLimit},
		{"17 lists around a wrong element", nest(api.Value{}, 17), api.ErrArg},
		{"17 lists before a wrong element", list(nest(list(), 16), api.Value{}), api.ErrArg},
		{"2^16 lists", nest(list(), 1<<16-1), api.ErrLimit},
		{"2^16 lists around a wrong element", nest(api.Value{}, 1<<16-1), api.ErrArg},
	} {
		if e := Check(x.v); e != x.want {
			t.Errorf("%s: Check: %d", x.name, e)
		}
		if b, e := Encode(x.v); e != x.want || len(b) != 0 {
			t.Errorf("%s: Encode: %v %d", x.name, b, e)
		}
		if n, e := Size(x.v); e != x.want || n != 0 {
			t.Errorf("%s: Size: %d %d", x.name, n, e)
		}
	}
}

// P1.2: Decode finds the value of an encoding.
func TestDecode(t *testing.T) {
	for _, x := range encodings() {
		if v, e := Decode(x.b); e != api.OK || !Same(v, x.v) {
			t.Errorf("%s: Decode: %v %d", x.name, v, e)
		}
	}
}

// P1.2: Decode refuses everything that is no encoding.
func TestDecodeErrors(t *testing.T) {
	for _, x := range []struct {
		name string
		b    []byte
	}{
		{"nil", nil},
		{"no bytes", []byte{}},
		{"the kind 0", []byte{0, 0}},
		{"the kind 4", []byte{4, 0}},
		{"the kind 255", []byte{255, 0}},
		{"an int without a numeral", []byte{1}},
		{"an int without a last digit", []byte{1, 128}},
		{"an int with a superfluous digit", []byte{1, 128, 0}},
		{"an int with a superfluous digit that is not the first one", []byte{1, 129, 0}},
		{"an int with two superfluous digits", []byte{1, 129, 128, 0}},
		{"an int with bytes after it", []byte{1, 5, 0}},
		{"an int after an int", []byte{1, 0, 1, 0}},
		{"an int with 65 bits", join([]byte{1}, times(9, 255), []byte{2})},
		{"2^64", join([]byte{1}, times(9, 128), []byte{2})},
		{"an int with 70 bits", join([]byte{1}, times(9, 255), []byte{127})},
		{"a tenth digit 0", join([]byte{1}, times(9, 255), []byte{0})},
		{"an eleventh digit", join([]byte{1}, times(10, 128), []byte{1})},
		{"an eleventh digit 0", join([]byte{1}, times(9, 255), []byte{129, 0})},
		{"no end of digits", join([]byte{1}, times(100, 255))},
		{"a text without a numeral", []byte{2}},
		{"a text without a last digit", []byte{2, 128}},
		{"a text with a superfluous digit", []byte{2, 128, 0}},
		{"a text with a superfluous digit that is not the first one", []byte{2, 129, 0, 97}},
		{"a text that is missing", []byte{2, 1}},
		{"a text that is too short", []byte{2, 3, 97}},
		{"a text that is too long", []byte{2, 1, 97, 98}},
		{"a text with bytes after it", []byte{2, 0, 0}},
		{"a text of 2^63 bytes", join([]byte{2}, times(9, 128), []byte{1, 97})},
		{"a text of 2^64 - 1 bytes", join([]byte{2}, times(9, 255), []byte{1, 97})},
		{"a text of 2^64 bytes", join([]byte{2}, times(9, 128), []byte{2})},
		{"a list without a numeral", []byte{3}},
		{"a list without a last digit", []byte{3, 128}},
		{"a list with a superfluous digit", []byte{3, 128, 0}},
		{"a list without its element", []byte{3, 1}},
		{"a list without its last element", []byte{3, 2, 1, 0}},
		{"a list with half an element", []byte{3, 1, 1}},
		{"a list with an element of the kind 0", []byte{3, 1, 0}},
		{"a list with an element of the kind 5", []byte{3, 1, 5, 0}},
		{"a list with too many elements", []byte{3, 1, 1, 0, 1, 0}},
		{"a list with a list after it", []byte{3, 0, 3, 0}},
		{"a list with a text that is too long", []byte{3, 2, 2, 4, 97, 1, 0}},
		{"a list of 2^62 elements", join([]byte{3}, times(8, 128), []byte{64, 1, 0})},
		{"a list of 2^63 elements", join([]byte{3}, times(9, 128), []byte{1, 1, 0})},
		{"a list of 2^64 - 1 elements", join([]byte{3}, times(9, 255), []byte{1, 1, 0})},
		{"lists of 2^62 elements in a list", times(16, 3, 128, 128, 128, 128, 128, 128, 128, 128, 64)},
		{"17 lists", join(times(16, 3, 1), []byte{3, 0})},
		{"an int in 17 lists", join(times(17, 3, 1), []byte{1, 0})},
		{"17 lists, after a shallow list", join([]byte{3, 2, 3, 0}, times(15, 3, 1), []byte{3, 0})},
		{"a million lists", join(times(1<<20, 3, 1), []byte{3, 0})},
	} {
		if v, e := Decode(x.b); e != api.ErrCode || !Same(v, api.Value{}) {
			t.Errorf("%s: Decode: %v %d", x.name, v, e)
		}
	}
}

// P1.2: Decode reads only what it is given, not what lies behind it in memory.
func TestDecodeCapacity(t *testing.T) {
	b := []byte{2, 3, 97, 98, 99}
	for n := range len(b) {
		if v, e := Decode(b[:n]); e != api.ErrCode || !Same(v, api.Value{}) {
			t.Errorf("%d bytes: %v %d", n, v, e)
		}
	}
}

// P1.3: Same compares all fields of all values, well-formed or not.
func TestSame(t *testing.T) {
	different := []api.Value{
		{}, {N: 1}, {S: "a"}, {L: []api.Value{{}}}, {Kind: 4}, {Kind: -1},
		{Kind: math.MinInt}, {Kind: math.MaxInt}, {Kind: 257},
		number(0), number(1), number(-1), number(math.MinInt), number(math.MaxInt),
		text(""), text("a"), text("b"), text("ab"), text("a\x00"),
		{Kind: api.IntV, N: 1, S: "a"}, {Kind: api.IntV, N: 1, L: []api.Value{{}}},
		{Kind: api.TextV, N: 1, S: "a"}, {Kind: api.TextV, S: "a", L: []api.Value{{}}},
		list(), list(list()), list(list(), list()),
		{Kind: api.ListV, N: 1}, {Kind: api.ListV, S: "a"},
		list(api.Value{}), list(number(0)), list(number(1)), list(text("")),
		list(number(0), number(1)), list(number(1), number(0)), list(number(0), number(0)),
		list(list(number(1))), list(list(api.Value{Kind: 9})),
		nest(number(1), 16), nest(number(2), 16), nest(number(1), 17),
		nest(number(1), 1<<16-1), nest(number(2), 1<<16-1), nest(number(1), 1<<16-2),
	}
	for i, a := range different {
		for k, b := range different {
			if Same(a, b) != (i == k) {
				t.Errorf("the values %d and %d: %t", i, k, Same(a, b))
			}
		}
	}
}

// P1.3: nil and empty slices are equal, at every level.
func TestSameEmptySlices(t *testing.T) {
	for _, kind := range []int{0, api.IntV, api.TextV, api.ListV, 7} {
		a, b := api.Value{Kind: kind}, api.Value{Kind: kind, L: []api.Value{}}
		if !Same(a, b) || !Same(b, a) || !Same(list(a, b), list(b, a)) {
			t.Errorf("the kind %d", kind)
		}
	}
}

// P1.3: values that share no memory are equal if their fields are.
func TestSameCopies(t *testing.T) {
	for _, x := range encodings() {
		if !Same(x.v, deepCopy(x.v)) {
			t.Error(x.name)
		}
	}
}

func deepCopy(v api.Value) api.Value {
	l := make([]api.Value, len(v.L), len(v.L)+1)
	for i, x := range v.L {
		l[i] = deepCopy(x)
	}
	v.S, v.L = string([]byte(v.S)), l
	return v
}

// randomValue makes a value of at most the given depth, by a fixed seed.
func randomValue(r *rand.Rand, depth int) api.Value {
	switch kind := r.Intn(4); {
	case kind == 0:
		return number(int(r.Uint64() >> r.Intn(64)))
	case kind == 1:
		return number(-int(r.Uint64() >> r.Intn(64)))
	case kind == 2 || depth == 0:
		s := make([]byte, r.Intn(4)*r.Intn(60))
		r.Read(s)
		return text(string(s))
	}
	l := make([]api.Value, r.Intn(4))
	if r.Intn(20) == 0 {
		l = make([]api.Value, 100+r.Intn(60))
		depth = 1
	}
	for i := range l {
		l[i] = randomValue(r, depth-1)
	}
	return list(l...)
}

func randomValues() (l []api.Value) {
	r := rand.New(rand.NewSource(1))
	for range 3000 {
		l = append(l, randomValue(r, r.Intn(api.MaxDepth+1)))
	}
	return l
}

// P1.4: Decode of Encode is the value itself.
func TestDecodeOfEncode(t *testing.T) {
	for i, v := range randomValues() {
		b, e := Encode(v)
		w, f := Decode(b)
		if e != api.OK || f != api.OK || !Same(v, w) {
			t.Fatalf("the value %d, %v: %v %d %v %d", i, v, b, e, w, f)
		}
		if n, e := Size(v); e != api.OK || n != len(b) {
			t.Fatalf("the value %d: Size %d %d", i, n, e)
		}
	}
}

// eachString calls do with all strings of at most the given length whose bytes are of the given ones.
func eachString(length int, of []byte, do func(b []byte)) {
	var extend func(b []byte)
	extend = func(b []byte) {
		do(b)
		if len(b) == length {
			return
		}
		for _, x := range of {
			extend(append(b[:len(b):len(b)], x))
		}
	}
	extend(nil)
}

// P1.2, P1.4: whatever Decode accepts is what Encode makes of the value, and
// Decode accepts each encoding: of the short strings, as many as there are values.
func TestEncodeOfDecode(t *testing.T) {
	accepted := map[int]int{}
	eachString(6, []byte{0, 1, 2, 3, 4, 127, 128, 129, 255}, func(b []byte) {
		v, e := Decode(b)
		if e != api.OK {
			if e != api.ErrCode || !Same(v, api.Value{}) {
				t.Fatalf("%v: %v %d", b, v, e)
			}
			return
		}
		accepted[len(b)]++
		if c, e := Encode(v); e != api.OK || !bytes.Equal(b, c) {
			t.Fatalf("%v: %v %v %d", b, v, c, e)
		}
	})
	// Of the nine bytes, 3 are digits before others; 6 are last digits, 5 of them not zero.
	// The values with n bytes are ints[n] ints, texts[n] texts, and lists.
	ints := map[int]int{2: 6, 3: 3 * 5, 4: 3 * 3 * 5, 5: 3 * 3 * 3 * 5, 6: 3 * 3 * 3 * 3 * 5}
	texts := map[int]int{2: 1, 3: 9, 4: 9 * 9, 5: 9 * 9 * 9, 6: 9 * 9 * 9 * 9}
	values := map[int]int{}
	for n := 2; n <= 6; n++ {
		lists := values[n-2] // with one element
		if n == 2 {
			lists = 1 // the empty one
		}
		if n == 6 {
			lists += values[2] * values[2]
		}
		values[n] = ints[n] + texts[n] + lists
		if accepted[n] != values[n] {
			t.Errorf("%d bytes: %d encodings, but %d values", n, accepted[n], values[n])
		}
	}
	if accepted[0] != 0 || accepted[1] != 0 {
		t.Error("an encoding of fewer than two bytes")
	}
}

// P1.4: different values have different encodings, and none is the beginning of another one.
func TestPrefixFree(t *testing.T) {
	var all [][]byte
	for _, v := range randomValues() {
		b, _ := Encode(v)
		all = append(all, b)
	}
	for _, x := range encodings() {
		b, _ := Encode(x.v)
		all = append(all, b)
	}
	slices.SortFunc(all, bytes.Compare)
	all = slices.CompactFunc(all, bytes.Equal)
	for i := range len(all) - 1 {
		if bytes.HasPrefix(all[i+1], all[i]) {
			t.Errorf("%v is a beginning of %v", all[i], all[i+1])
		}
	}
	for _, b := range all {
		for n := range min(len(b), 40) {
			if _, e := Decode(b[:n]); e != api.ErrCode {
				t.Fatalf("the beginning %v of %v: %d", b[:n], b, e)
			}
		}
		if _, e := Decode(append(b[:len(b):len(b)], 0)); e != api.ErrCode {
			t.Fatalf("%v with a byte after it: %d", b, e)
		}
	}
}

// P1.4: the size of a list follows from those of its elements.
func TestSizeOfList(t *testing.T) {
	values := randomValues()
	for _, many := range []int{0, 1, 2, 127, 128, 300} {
		l := list()
		for _, v := range values {
			if len(l.L) < many && Check(list(v)) == api.OK {
				l.L = append(l.L, v)
			}
		}
		zeros := list(slices.Repeat([]api.Value{number(0)}, many)...)
		want, e := Size(zeros)
		if e != api.OK || len(l.L) != many {
			t.Fatal(many, e)
		}
		zero, _ := Size(number(0))
		want -= many * zero
		for _, x := range l.L {
			n, _ := Size(x)
			want += n
		}
		if n, e := Size(l); e != api.OK || n != want {
			t.Errorf("%d elements: %d %d, not %d", many, n, e, want)
		}
	}
}

// R2, R6: no call changes its arguments or what another one has returned.
func TestPure(t *testing.T) {
	for _, x := range encodings() {
		v, b := deepCopy(x.v), bytes.Clone(x.b)
		first, _ := Encode(v)
		kept := bytes.Clone(first)
		second, _ := Encode(v)
		w, _ := Decode(b)
		Size(v)
		Check(v)
		Same(v, w)
		if !Same(v, x.v) || !bytes.Equal(b, x.b) || !bytes.Equal(first, kept) || !bytes.Equal(second, kept) || !Same(w, x.v) {
			t.Error(x.name)
		}
	}
}

// Decode accepts exactly the encodings, whatever it is given.
func FuzzDecode(f *testing.F) {
	for _, x := range encodings() {
		f.Add(x.b)
	}
	f.Fuzz(func(t *testing.T, b []byte) {
		v, e := Decode(b)
		if e != api.OK {
			if e != api.ErrCode || !Same(v, api.Value{}) {
				t.Fatal(v, e)
			}
			return
		}
		if c, e := Encode(v); e != api.OK || !bytes.Equal(b, c) {
			t.Fatal(v, c, e)
		}
	})
}
