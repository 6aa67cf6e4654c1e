package sign

import (
	"bytes"
	"math"
	"math/rand"
	"slices"
	"testing"

	"signatory/api"
	"signatory/field"
)

func TestGiven(t *testing.T) {
	if api.P != modulus || api.Q != order || api.G != 4 || api.ErrKey != 110 {
		t.Error(api.P, api.Q, api.G, api.ErrKey)
	}
}

// P11.1: signatures of many secrets and texts.
func TestSign(t *testing.T) {
	for _, secret := range someSecrets(20) {
		for _, b := range someTexts() {
			want, _ := expected(secret, b)
			if s, e := Sign(secret, b); s != want || e != api.OK {
				t.Errorf("%d signs %d bytes: %v, error %d; not %v", secret, len(b), s, e, want)
			}
		}
	}
}

// P11.1: only numbers from 1 to Q - 1 are secrets, whatever the text is.
func TestSignSecrets(t *testing.T) {
	for _, secret := range edges() {
		for _, b := range [][]byte{nil, []byte("a"), make([]byte, 200)} {
			want, err := expected(secret, b)
			if s, e := Sign(secret, b); s != want || e != err {
				t.Errorf("%d signs %d bytes: %v, error %d; not %v, error %d", secret, len(b), s, e, want, err)
			}
		}
	}
	for _, secret := range []int{0, order, -1, 5 - order, 5 + order, math.MinInt, math.MaxInt} {
		if s, e := Sign(secret, []byte("b")); s != (api.Sig{}) || e != 110 {
			t.Errorf("%d: %v, error %d", secret, s, e)
		}
	}
}

// rareTexts are texts that the secret 5 signs with numbers at the edges. They
// were found by trying more than 10^9 texts.
const (
	nonceZero  = "362421958"
	nonceLast  = "1647936748"
	eZero      = "186127332"
	eLast      = "65109011"
	answerZero = "1457227169"
	answerLast = "834390622"
)

// P11.1, P11.2: a nonce whose hash is 0 is 1, and E and S may be 0 and Q - 1.
func TestRare(t *testing.T) {
	if nonceHash(5, []byte(nonceZero)) != 0 || nonceHash(5, []byte(nonceLast)) != order-1 {
		t.Error("other nonces than 0 and Q - 1")
	}
	for _, x := range []struct {
		text string
		as   func(s api.Sig) bool
	}{
		{nonceZero, func(s api.Sig) bool { return pointOf(1024, s) == 4 }},
		{nonceLast, func(s api.Sig) bool { return pointOf(1024, s) == 536870895 }},
		{eZero, func(s api.Sig) bool { return s.E == 0 && s.S == nonceHash(5, []byte(eZero)) }},
		{eLast, func(s api.Sig) bool { return s.E == order-1 }},
		{answerZero, func(s api.Sig) bool { return s.S == 0 }},
		{answerLast, func(s api.Sig) bool { return s.S == order-1 }},
	} {
		want, _ := expected(5, []byte(x.text))
		s, e := Sign(5, []byte(x.text))
		if s != want || e != api.OK || !x.as(s) {
			t.Errorf("%s: %v, error %d; not %v", x.text, s, e, want)
		}
		if !Verify(1024, []byte(x.text), s) {
			t.Errorf("%s: %v is not right", x.text, s)
		}
	}
}

// P11.2: what Sign returns is right for the key of the secret and the text.
func TestSignedIsRight(t *testing.T) {
	for _, secret := range someSecrets(50) {
		for _, b := range someTexts() {
			if s := signed(t, secret, b); !Verify(keyOf(secret), b, s) || !isRight(keyOf(secret), b, s) {
				t.Errorf("%d signs %d bytes: %v is not right", secret, len(b), s)
			}
		}
	}
	if b := []byte("b"); !Verify(1024, b, signed(t, 5, b)) {
		t.Error("the example")
	}
}

// P11.1, P11.2: a long text, and texts that differ from it in one byte.
func TestLong(t *testing.T) {
	b := bytes.Repeat([]byte("article"), 150000)
	want, _ := expected(order-1, b)
	s, e := Sign(order-1, b)
	if s != want || e != api.OK || !Verify(keyOf(order-1), b, s) {
		t.Errorf("%v, error %d; not %v", s, e, want)
	}
	for _, at := range []int{0, len(b) / 2, len(b) - 1} {
		other := slices.Clone(b)
		other[at]++
		if Verify(keyOf(order-1), other, s) {
			t.Errorf("right with another byte at %d", at)
		}
	}
	if Verify(keyOf(order-1), b[:len(b)-1], s) {
		t.Error("right without the last byte")
	}
}

// P11.1: signatures with any nonces are right, also with 0 and for the key 1,
// which is that of no secret from 1 on.
func TestOtherNonces(t *testing.T) {
	b := []byte("to the office 3")
	for _, secret := range append(someSecrets(20), 0) {
		for _, k := range []int{0, 1, 2, order / 2, order - 1, 1234567, 76543210} {
			if s := madeWith(k, secret, b); !Verify(keyOf(secret), b, s) {
				t.Errorf("%d with the nonce %d: %v is not right", secret, k, s)
			}
		}
	}
	for _, k := range []int{0, order - 1} {
		s := api.Sig{E: challengeOf(raised(4, k), 1, b), S: k}
		if !Verify(1, b, s) {
			t.Errorf("the key 1: %v is not right", s)
		}
	}
}

// P11.1: a signature is right for nothing but its own key and text.
func TestOthers(t *testing.T) {
	secrets, texts := someSecrets(3), someTexts()
	for i, secret := range secrets {
		for j, b := range texts {
			s := signed(t, secret, b)
			for k, other := range secrets {
				if got, want := Verify(keyOf(other), b, s), k == i; got != want {
					t.Errorf("text %d, the keys of %d and %d: %t", j, secret, other, got)
				}
			}
			for k, other := range texts {
				if got, want := Verify(keyOf(secret), other, s), k == j; got != want {
					t.Errorf("the key of %d, the texts %d and %d: %t", secret, j, k, got)
				}
			}
			for name, x := range map[string]api.Sig{
				"exchanged": {E: s.S, S: s.E},
				"none":      {},
				"without E": {S: s.S},
				"without S": {E: s.E},
				"opposite":  {E: order - s.E, S: order - s.S},
			} {
				if Verify(keyOf(secret), b, x) {
					t.Errorf("%d signs text %d, %s: %v is right", secret, j, name, x)
				}
			}
		}
	}
}

// P11.1: no bit of a signature, of a key and of a text may be another one.
func TestBits(t *testing.T) {
	b := []byte("a letter")
	for _, secret := range someSecrets(3) {
		key, s := keyOf(secret), signed(t, secret, b)
		for bit := range 64 {
			for i, x := range []api.Sig{{E: s.E ^ 1<<bit, S: s.S}, {E: s.E, S: s.S ^ 1<<bit}} {
				if Verify(key, b, x) {
					t.Errorf("bit %d of number %d: %v is right", bit, i, x)
				}
			}
			if Verify(key^1<<bit, b, s) {
				t.Errorf("bit %d of the key", bit)
			}
			text := slices.Clone(b)
			text[bit/8] ^= 1 << (bit % 8)
			if Verify(key, text, s) {
				t.Errorf("bit %d of the text", bit)
			}
		}
	}
}

// P11.1: other pairs of numbers with the same point are not right: E is the
// hash of the point, and of nothing else.
func TestSamePoint(t *testing.T) {
	b := []byte("a letter")
	for _, secret := range someSecrets(5) {
		key, s := keyOf(secret), signed(t, secret, b)
		for _, d := range []int{1, 2, 1000, order / 2, order - 1} {
			x := api.Sig{E: onto(s.E, d, 1), S: onto(s.S, d, secret)}
			if pointOf(key, x) != pointOf(key, s) || Verify(key, b, x) {
				t.Errorf("%d: %v, like %v", secret, x, s)
			}
		}
	}
}

// P11.1: what is hashed has the tag, the order and the kinds that the chapter says.
func TestOtherHashes(t *testing.T) {
	const secret, k = 123456789, 987654321
	key, point, b := keyOf(secret), raised(4, k), []byte("a letter")
	for name, h := range map[string]int{
		"right":          challengeOf(point, key, b),
		"the tag nonce":  hashed("nonce", encoded([]int{point, key}, b)),
		"no tag":         hashed("", encoded([]int{point, key}, b)),
		"the key first":  challengeOf(key, point, b),
		"no key":         hashed("sign", encoded([]int{point}, b)),
		"no point":       hashed("sign", encoded([]int{key}, b)),
		"no text":        challengeOf(point, key, nil),
		"a point twice":  challengeOf(point, point, b),
		"the secret":     challengeOf(point, secret, b),
		"not encoded":    hashed("sign", b),
		"the text first": hashed("sign", slices.Concat([]byte{3, 3, 2, 8}, b, encoded([]int{point, key}, nil)[2:])),
	} {
		if got := Verify(key, b, api.Sig{E: h, S: onto(k, h, secret)}); got != (name == "right") {
			t.Errorf("%s: %t", name, got)
		}
	}
}

// givenAway checks that two signatures for a key are right, and have one point
// and different E; it returns the quotient that then is the secret.
func givenAway(t *testing.T, key int, b1 []byte, s1 api.Sig, b2 []byte, s2 api.Sig) int {
	t.Helper()
	if !Verify(key, b1, s1) || !Verify(key, b2, s2) || pointOf(key, s1) != pointOf(key, s2) || s1.E == s2.E {
		t.Fatalf("%q and %q for the key %d: %v and %v", b1, b2, key, s1, s2)
	}
	inverse, e := field.Inverse(s1.E - s2.E)
	if e != api.OK {
		t.Fatal(e)
	}
	return field.Mul(s1.S-s2.S, inverse)
}

// P11.3: two signatures with one point and different E give away the secret.
func TestSecretGivenAway(t *testing.T) {
	r := rand.New(rand.NewSource(3))
	texts := someTexts()
	for _, secret := range append(someSecrets(20), 0) {
		for range 5 {
			k, i := r.Intn(order), r.Intn(len(texts)-1)
			b, c := texts[i], texts[i+1]
			if got := givenAway(t, keyOf(secret), b, madeWith(k, secret, b), c, madeWith(k, secret, c)); got != secret {
				t.Errorf("%d with the nonce %d: %d", secret, k, got)
			}
		}
	}
}

// P11.3: Sign signs two texts with one point where the hashes for their nonces
// agree, as those of about one in 10^9 pairs of texts do. These were found by
// trying some 10^5 texts.
func TestSecretOfSign(t *testing.T) {
	for _, x := range []struct {
		secret int
		b, c   string
	}{
		{5, "27013", "104060"},
		{123456789, "6803", "24312"},
		{order - 1, "139", "6862"},
	} {
		b, c := []byte(x.b), []byte(x.c)
		if nonceHash(x.secret, b) != nonceHash(x.secret, c) {
			t.Errorf("%d: the nonces of %s and %s", x.secret, b, c)
		}
		if got := givenAway(t, keyOf(x.secret), b, signed(t, x.secret, b), c, signed(t, x.secret, c)); got != x.secret {
			t.Errorf("%d: %d", x.secret, got)
		}
	}
}

// P11.1, P11.3: the point depends on the text and on the secret: of these few
// signatures no two have one.
func TestPoints(t *testing.T) {
	type made struct{ secret, text int }
	from := map[int]made{}
	for _, secret := range someSecrets(50) {
		for j, b := range someTexts() {
			p := pointOf(keyOf(secret), signed(t, secret, b))
			if x, ok := from[p]; ok {
				t.Errorf("one point for %v and %v", x, made{secret, j})
			}
			from[p] = made{secret, j}
		}
	}
}

// P11.4: numbers that are not from 0 to Q - 1 are not right, though they stand for those that are.
func TestNumbers(t *testing.T) {
	for _, text := range []string{"", "a letter", nonceZero, eZero, eLast, answerZero, answerLast} {
		b := []byte(text)
		s := signed(t, 5, b)
		for _, d := range []int{order, -order, 2 * order, -2 * order, order << 30, -order << 30, 1 << 32, math.MinInt} {
			for i, x := range []api.Sig{{E: s.E + d, S: s.S}, {E: s.E, S: s.S + d}, {E: s.E + d, S: s.S + d}} {
				if Verify(1024, b, x) {
					t.Errorf("%q, %d, %d: %v is right", text, d, i, x)
				}
			}
		}
		for _, n := range edges() {
			for i, x := range []api.Sig{{E: n, S: s.S}, {E: s.E, S: n}, {E: n, S: n}} {
				if Verify(1024, b, x) != (x == s) {
					t.Errorf("%q, %d, %d: %v", text, n, i, x)
				}
			}
		}
	}
	for _, s := range []api.Sig{{S: order}, {E: order}, {E: -1}, {S: -1}} {
		if Verify(1024, []byte("b"), s) {
			t.Error(s)
		}
	}
}

// P11.4: for what is no element no signature is right, also if E is the hash
// that would be expected of an element, or of a point that is 0.
func TestNoElement(t *testing.T) {
	b := []byte("a letter")
	if Verify(2, b, signed(t, 5, b)) {
		t.Error("the example")
	}
	for _, key := range edges() {
		if isElement(key) {
			continue
		}
		for _, s := range []api.Sig{{}, signed(t, 5, b), {E: challengeOf(0, key, b)}, {E: challengeOf(1, key, b)}, {E: challengeOf(0, key, b), S: order - 1}} {
			if Verify(key, b, s) {
				t.Errorf("%d: %v is right", key, s)
			}
		}
	}
	for _, secret := range someSecrets(20) {
		// Powers of the opposite to even numbers are those of the key.
		key, even := modulus-keyOf(secret), 0
		for k := range 20 {
			e := challengeOf(raised(4, k), key, b)
			s := api.Sig{E: e, S: onto(k, e, secret)}
			if pointOf(key, s) == raised(4, k) {
				even++
			}
			if Verify(key, b, s) {
				t.Errorf("the key %d: %v is right", key, s)
			}
		}
		if even == 0 {
			t.Error("no signature that is wrong for the key alone")
		}
	}
}

// P11.4: a key that is congruent to an element is none, whichever of them is hashed.
func TestCongruentKeys(t *testing.T) {
	b := []byte("a letter")
	for _, secret := range someSecrets(10) {
		for _, d := range []int{modulus, -modulus, 2 * modulus, order, -order, 1 << 32} {
			key, k := keyOf(secret)+d, 77777
			if key >= 1 && key < modulus {
				continue
			}
			e := challengeOf(raised(4, k), key, b)
			for i, s := range []api.Sig{signed(t, secret, b), {E: e, S: onto(k, e, secret)}} {
				if Verify(key, b, s) {
					t.Errorf("%d, %d: %v is right", key, i, s)
				}
			}
		}
	}
}

// P11.4, R2, R3: equal calls sign equally, wherever the text is, and change neither
// it nor the memory behind it; nil is the empty text.
func TestEqualCalls(t *testing.T) {
	b := bytes.Repeat([]byte("memory"), 30)
	kept := slices.Clone(b)
	for n := range b {
		first, other := signed(t, 5, b[:n]), signed(t, 5, b[n:])
		for range 3 {
			if s := signed(t, 5, slices.Clone(b[:n])); s != first || s != signed(t, 5, b[:n:n]) {
				t.Errorf("%d bytes: %v and %v", n, first, s)
			}
			if !Verify(1024, b[:n], first) || !Verify(1024, b[n:], other) {
				t.Errorf("%d bytes: %v is not right any more", n, first)
			}
		}
	}
	if !bytes.Equal(b, kept) {
		t.Error("the text has changed")
	}
	if signed(t, 5, nil) != signed(t, 5, []byte{}) || !Verify(1024, nil, signed(t, 5, b[:0])) {
		t.Error("no bytes")
	}
}

// P11.1 to P11.4: whatever the secret, the key, the text and the numbers are,
// both functions return what the model does.
func FuzzSign(f *testing.F) {
	f.Add(5, 1024, []byte("a letter"), 0, 0)
	f.Add(order-1, 536870895, []byte(nil), -1, order)
	f.Add(0, 1, []byte(eZero), order-1, 1)
	f.Add(math.MinInt, modulus-2, make([]byte, 200), math.MaxInt, math.MinInt)
	f.Fuzz(func(t *testing.T, secret, key int, b []byte, x, y int) {
		// Nearly all integers are too large: the others are tried as well.
		near := func(n int) int { return reduced(exact(n)) }
		for _, secret := range []int{secret, near(secret), near(x)} {
			want, err := expected(secret, b)
			s, e := Sign(secret, b)
			if s != want || e != err {
				t.Fatalf("%d signs %q: %v, error %d; not %v, error %d", secret, b, s, e, want, err)
			}
			made := madeWith(near(y), near(secret), b)
			for _, key := range []int{key, near(key), product(key, key), keyOf(near(secret)), modulus - keyOf(near(secret))} {
				for _, s := range []api.Sig{s, made, {E: x, S: y}, {E: near(x), S: near(y)}, {E: s.E, S: s.S + x}, {E: made.E + x, S: made.S}} {
					if got, want := Verify(key, b, s), isRight(key, b, s); got != want {
						t.Fatalf("%v for the key %d and %q: %t", s, key, b, got)
					}
				}
			}
		}
	})
}
