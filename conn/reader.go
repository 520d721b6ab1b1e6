package conn

import (
	"turnbuckle/api"
	"turnbuckle/reasm"
)

// reader is what this end reads of a stream.
type reader struct {
	bytes *reasm.Stream
	top   int // just behind the last byte that came
	sure  int // up to where the other end knows that bytes may come
	told  int // the last limit that it was told, unless that was lost
}

// bounds are a stream's as far as frames were looked at, that nothing has taken yet.
type bounds struct {
	limit, top int
	end        int
	known      bool
}

// idle tells whether the other end knows all that it has to.
func (r *reader) idle() bool {
	_, known := r.bytes.End()
	// Behind the end it needs no room any more.
	return known || r.bytes.Limit() <= r.sure
}

// due tells whether the limit is to be told.
func (r *reader) due() bool {
	return !r.idle() && r.bytes.Limit() > r.told
}

// take takes what a Stream tells that was looked at.
func (r *reader) take(f api.Frame) {
	r.bytes.Data(f.Offset, f.Data, f.Fin)
	if len(f.Data) > 0 {
		r.top = max(r.top, f.Offset+len(f.Data))
	}
}

// bounds are the stream's as it is.
func (r *reader) bounds() bounds {
	end, known := r.bytes.End()
	return bounds{limit: r.bytes.Limit(), top: r.top, end: end, known: known}
}

// take is the error with which the stream would refuse what a Stream tells, behind those that were looked at.
func (b *bounds) take(f api.Frame) api.Errno {
	to := f.Offset + len(f.Data)
	if to > b.limit {
		return api.ErrFlow
	}
	if b.known && to > b.end || f.Fin && (b.known && to != b.end || to < b.top) {
		return api.ErrFinal
	}
	if len(f.Data) > 0 {
		b.top = max(b.top, to)
	}
	if f.Fin {
		b.end, b.known = to, true
	}
	return api.OK
}
