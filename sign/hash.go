package sign

import (
	"signatory/api"
	"signatory/codec"
	"signatory/group"
)

// nonce returns the exponent of the point of what Sign returns. Two texts that
// are signed with one point give away the secret: so it depends on the text,
// and two texts have one nonce only where their hashes agree.
func nonce(secret int, b []byte) int {
	// With the nonce 0, S would be the product of E and the secret, which
	// anybody could divide by E.
	return max(hash("nonce", secret, b), 1)
}

// challenge returns the E of a signature with a point.
func challenge(point, key int, b []byte) int { return hash("sign", point, key, b) }

// hash returns the hash of the encoding of the list of the parts, which are
// numbers and texts.
func hash(tag string, parts ...any) int {
	l := make([]api.Value, len(parts))
	for i, p := range parts {
		l[i] = value(p)
	}
	// Lists of numbers and texts are always encoded: there is no error.
	b, _ := codec.Encode(api.Value{Kind: api.ListV, L: l})
	return group.Hash(tag, b)
}

// value returns the value that is encoded for a number or a text.
func value(part any) (v api.Value) {
	switch x := part.(type) {
	case int:
		v = api.Value{Kind: api.IntV, N: x}
	case []byte:
		v = api.Value{Kind: api.TextV, S: string(x)}
	}
	return v
}
