package codec

import "signatory/api"

// A reader holds what remains to be read. Its methods panic if that is not the
// beginning of what they read; Decode recovers.
type reader struct{ rest []byte }

// value reads a value of at most the given depth.
func (r *reader) value(depth int) api.Value {
	switch r.take(1)[0] {
	case api.IntV:
		return api.Value{Kind: api.IntV, N: signedForm(r.numeral())}
	case api.TextV:
		return api.Value{Kind: api.TextV, S: string(r.take(r.numeral()))}
	case api.ListV:
		return api.Value{Kind: api.ListV, L: r.list(depth)}
	}
	panic(api.ErrCode)
}

// list reads the elements one by one: a number of elements that is not true
// runs out of bytes before it claims any memory.
func (r *reader) list(depth int) (l []api.Value) {
	if depth == 0 {
		panic(api.ErrCode)
	}
	for range r.numeral() {
		l = append(l, r.value(depth-1))
	}
	return l
}

// numeral refuses superfluous zero digits and numbers of more than 64 bits, so
// that each number has one numeral.
func (r *reader) numeral() (u uint64) {
	for i := range maxDigits {
		digit := r.take(1)[0]
		u |= uint64(digit%base) << (digitBits * i)
		if digit >= base {
			continue
		}
		superfluous := digit == 0 && i > 0
		overflow := digit > lastDigit && i == maxDigits-1
		if superfluous || overflow {
			break
		}
		return u
	}
	panic(api.ErrCode)
}

func (r *reader) take(n uint64) []byte {
	end := len(r.rest)
	if n > uint64(end) {
		panic(api.ErrCode)
	}
	taken := r.rest[:n:n]
	r.rest = r.rest[n:end:end]
	return taken
}

func (r *reader) end() {
	if len(r.rest) > 0 {
		panic(api.ErrCode)
	}
}
