package huff

// writer puts words one behind the other; rest are the bits that do not fill a byte yet.
type writer struct {
	b    []byte
	rest Word
}

// put puts one behind the others.
func (w *writer) put(x Word) {
	w.rest = Word{Bits: w.rest.Bits<<x.Len | x.Bits, Len: w.rest.Len + x.Len}
	for w.rest.Len >= 8 {
		w.rest.Len -= 8
		w.b = append(w.b, byte(w.rest.Bits>>w.rest.Len))
	}
	w.rest.Bits &= ones(w.rest.Len).Bits
}

// fill puts bits 1 up to the end of the byte, if one is begun.
func (w *writer) fill() {
	if w.rest.Len > 0 {
		w.put(ones(8 - w.rest.Len))
	}
}
