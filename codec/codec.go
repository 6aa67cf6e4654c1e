// Package codec encodes values canonically. See shared/doc/01-codec.md.
package codec

import (
	"slices"

	"signatory/api"
)

// Check validates a value.
func Check(v api.Value) (e api.Errno) {
	if !wellFormed(v) {
		return api.ErrArg
	}
	if depth(v) > api.MaxDepth {
		return api.ErrLimit
	}
	return api.OK
}

// Encode returns the encoding of a value.
func Encode(v api.Value) (b []byte, e api.Errno) {
	if e = Check(v); e != api.OK {
		return nil, e
	}
	w := newWriter(size(v))
	w.value(v)
	return w.out, api.OK
}

// Decode returns the value of an encoding.
func Decode(b []byte) (v api.Value, e api.Errno) {
	defer func() {
		if recover() != nil {
			v, e = api.Value{}, api.ErrCode
		}
	}()
	r := reader{rest: b[:len(b):len(b)]}
	v = r.value(api.MaxDepth)
	r.end()
	return v, api.OK
}

// Size returns the length of the encoding of a value.
func Size(v api.Value) (n int, e api.Errno) {
	if e = Check(v); e != api.OK {
		return 0, e
	}
	return size(v), api.OK
}

// Same reports whether two values are equal.
func Same(a, b api.Value) (same bool) {
	return a.Kind == b.Kind && a.N == b.N && a.S == b.S && slices.EqualFunc(a.L, b.L, Same)
}

func wellFormed(v api.Value) bool {
	switch v.Kind {
	case api.IntV:
		return v.S == "" && len(v.L) == 0
	case api.TextV:
		return v.N == 0 && len(v.L) == 0
	case api.ListV:
		return v.N == 0 && v.S == "" && !slices.ContainsFunc(v.L, malformed)
	}
	return false
}

func malformed(v api.Value) bool { return !wellFormed(v) }

// depth returns the depth of a well-formed value.
func depth(v api.Value) int {
	if v.Kind != api.ListV {
		return 0
	}
	deepest := 0
	for _, x := range v.L {
		deepest = max(deepest, depth(x))
	}
	return 1 + deepest
}
