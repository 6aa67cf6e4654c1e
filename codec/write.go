package codec

import "signatory/api"

// A writer holds what is written so far, and for each kind the function that
// writes values of this kind. It writes only values that Check admits.
type writer struct {
	out   []byte
	kinds [api.ListV + 1]func(w *writer, v api.Value)
}

func newWriter(size int) *writer {
	return &writer{
		out: make([]byte, 0, size),
		kinds: [api.ListV + 1]func(*writer, api.Value){
			api.IntV:  writeInt,
			api.TextV: writeText,
			api.ListV: writeList,
		},
	}
}

func (w *writer) value(v api.Value) {
	w.out = append(w.out, byte(v.Kind))
	w.kinds[v.Kind](w, v)
}

func writeInt(w *writer, v api.Value) {
	w.out = appendNumeral(w.out, unsignedForm(v.N))
}

func writeText(w *writer, v api.Value) {
	w.out = appendNumeral(w.out, uint64(len(v.S)))
	w.out = append(w.out, v.S...)
}

func writeList(w *writer, v api.Value) {
	w.out = appendNumeral(w.out, uint64(len(v.L)))
	for _, x := range v.L {
		w.value(x)
	}
}

// size returns the number of bytes that a writer writes for v.
func size(v api.Value) int {
	switch v.Kind {
	case api.IntV:
		return 1 + numeralSize(unsignedForm(v.N))
	case api.TextV:
		return 1 + numeralSize(uint64(len(v.S))) + len(v.S)
	}
	n := 1 + numeralSize(uint64(len(v.L)))
	for _, x := range v.L {
		n += size(x)
	}
	return n
}
