package frames

import (
	"turnbuckle/api"
	"turnbuckle/vint"
)

// reader stands at a place in bytes. What may not stand there breaks it off.
type reader struct {
	b  []byte
	at int
}

// breakOff hands a fault to Decode.
func (r *reader) breakOff(why api.Errno, at int) {
	panic(api.Fault{Why: why, At: at})
}

// frame reads one, of which a byte is there.
func (r *reader) frame() api.Frame {
	begin := r.at
	kind, bits := r.kind()
	has, _ := partsOf(kind)
	f := api.Frame{Kind: kind, Fin: has.fin && bits&bitFin != 0}
	if has.stream {
		f.Stream = r.number()
	}
	if has.code {
		f.Code = r.number()
	}
	if has.offset && bits&bitOffset != 0 {
		f.Offset = r.number()
	}
	greatest := 0
	if has.spans {
		greatest = r.number()
	}
	if has.n {
		f.N = r.number()
	}
	if has.spans {
		f.Spans = r.spans(greatest)
	}
	if has.data {
		count := r.count(bits)
		if count > api.MaxVarint-f.Offset {
			r.breakOff(api.ErrFlow, begin)
		}
		f.Data = r.data(count)
	}
	return f
}

// kind reads a type. Only a Stream's bits may be unset: a frame of any other kind tells all that it has.
func (r *reader) kind() (int, int) {
	// A type that is told in more bytes than one begins with a byte that is no type.
	first := int(r.b[r.at])
	kind, bits := first, bitsAll
	if first&^bitsAll == api.Stream {
		kind, bits = api.Stream, first&bitsAll
	}
	if _, known := partsOf(kind); !known {
		r.breakOff(api.ErrForm, r.at)
	}
	r.at++
	return kind, bits
}

// number reads the next one.
func (r *reader) number() int {
	n, next, fault := vint.Get(r.b, r.at)
	if fault.Why != api.OK {
		r.breakOff(fault.Why, fault.At)
	}
	r.at = next
	return n
}

// atMost reads the next number, at which the fault is if it is above most.
func (r *reader) atMost(most int, why api.Errno) int {
	begin := r.at
	n := r.number()
	if n > most {
		r.breakOff(why, begin)
	}
	return n
}

// spans reads an Ack's, which are told from the greatest number on and rise in the frame.
func (r *reader) spans(greatest int) []api.Span {
	last := r.atMost(api.MaxSpans-1, api.ErrMany)
	l := make([]api.Span, last+1)
	l[last] = r.span(greatest)
	for i := last - 1; i >= 0; i-- {
		// The greatest number that may stand below a gap, which leaves out one at least.
		most := l[i+1].From - 2
		l[i] = r.span(most - r.atMost(most, api.ErrForm))
	}
	return l
}

// span reads one down from a number.
func (r *reader) span(to int) api.Span {
	return api.Span{From: to - r.atMost(to, api.ErrForm), To: to}
}

// count is how many bytes a frame tells that follow.
func (r *reader) count(bits int) int {
	if bits&bitLength == 0 {
		return len(r.b) - r.at
	}
	return r.number()
}

// data reads so many bytes into new memory.
func (r *reader) data(count int) []byte {
	if count > len(r.b)-r.at {
		r.breakOff(api.ErrEnd, len(r.b))
	}
	begin := r.at
	r.at += count
	return append([]byte(nil), r.b[begin:r.at]...)
}
