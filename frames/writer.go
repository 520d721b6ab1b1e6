package frames

import (
	"turnbuckle/api"
	"turnbuckle/vint"
)

// writer has the bytes of the frames so far. It is handed frames that may be told alone, so that each number has room.
type writer struct {
	b []byte
}

func (w *writer) frame(f api.Frame) {
	has, _ := partsOf(f.Kind)
	w.number(typeOf(f))
	if has.stream {
		w.number(f.Stream)
	}
	if has.code {
		w.number(f.Code)
	}
	if has.offset {
		w.number(f.Offset)
	}
	if has.spans {
		w.number(f.Spans[len(f.Spans)-1].To)
	}
	if has.n {
		w.number(f.N)
	}
	if has.spans {
		w.spans(f.Spans)
	}
	if has.data {
		w.number(len(f.Data))
		w.b = append(w.b, f.Data...)
	}
}

// typeOf is a frame's type: that of a Stream tells that its Offset and how many bytes it has are told.
func typeOf(f api.Frame) int {
	if f.Kind != api.Stream {
		return f.Kind
	}
	if f.Fin {
		return api.Stream | bitOffset | bitLength | bitFin
	}
	return api.Stream | bitOffset | bitLength
}

// spans writes an Ack's from the last one on, whose To was told ahead of its N.
func (w *writer) spans(l []api.Span) {
	last := len(l) - 1
	w.number(last)
	w.number(l[last].To - l[last].From)
	for i := last - 1; i >= 0; i-- {
		w.number(l[i+1].From - l[i].To - 2)
		w.number(l[i].To - l[i].From)
	}
}

// number puts it behind no bytes first, since vint copies what it is handed.
func (w *writer) number(n int) {
	b, _ := vint.Put(nil, n)
	w.b = append(w.b, b...)
}
