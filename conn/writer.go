package conn

import (
	"slices"
	"sort"

	"turnbuckle/api"
	"turnbuckle/vint"
)

// letter is a byte that was written, at its place on the stream; or the stream's end, which stands behind the last byte.
type letter struct {
	at    int
	value byte // none of the end
	told  bool // whether a datagram told it that is not lost
}

// writer is what this end writes on a stream.
type writer struct {
	rest   []letter // those that were not acked, by their places
	size   int      // how many bytes were written
	closed bool     // whether that is the end
	limit  int      // up to where bytes may come at the other end
}

// write puts bytes behind what was written.
func (w *writer) write(b []byte, fin bool) api.Errno {
	if w.closed {
		return api.ErrOver
	}
	if len(b) > Buffer-w.queued() {
		return api.ErrWait
	}
	for _, value := range b {
		w.rest = append(w.rest, letter{at: w.size, value: value})
		w.size++
	}
	if fin {
		w.rest = append(w.rest, letter{at: w.size})
		w.closed = true
	}
	return api.OK
}

// isEnd tells whether a letter is the end: there is no byte at that place.
func (w *writer) isEnd(l letter) bool {
	return l.at == w.size
}

// queued is how many bytes were not acked.
func (w *writer) queued() int {
	n := len(w.rest)
	if n > 0 && w.isEnd(w.rest[n-1]) {
		return n - 1
	}
	return n
}

// within is from where to where the letters of a part stand that were not acked.
func (w *writer) within(p part) (int, int) {
	return w.find(p.from), w.find(p.to)
}

// find is where the first letter stands that is at a place or behind it.
func (w *writer) find(at int) int {
	return sort.Search(len(w.rest), func(i int) bool { return w.rest[i].at >= at })
}

// tell is a frame of the first letters that wait, as many as the room and the other end's window have room for: they are told then. Without any the part is empty.
func (w *writer) tell(stream, room int) (api.Frame, part) {
	row := w.waiting()
	if len(row) == 0 {
		return api.Frame{}, part{}
	}
	from := row[0].at
	f := api.Frame{Kind: api.Stream, Stream: stream, Offset: from}
	p := part{stream: stream, from: from, to: from}
	most := min(hold(f, room), w.limit-from)
	for i, l := range row {
		if i > most || i == most && !w.isEnd(l) {
			break
		}
		if w.isEnd(l) {
			f.Fin = true
		} else {
			f.Data = append(f.Data, l.value)
		}
		row[i].told = true
		p.to++
	}
	return f, p
}

// waiting are the first letters that wait to be told and follow on one another.
func (w *writer) waiting() []letter {
	from := slices.IndexFunc(w.rest, func(l letter) bool { return !l.told })
	if from < 0 {
		return nil
	}
	to := from + 1
	for to < len(w.rest) && !w.rest[to].told && w.rest[to].at == w.rest[to-1].at+1 {
		to++
	}
	return w.rest[from:to]
}

// hold is how many bytes of Data a Stream has room for; below 0, if it has no room without any.
func hold(f api.Frame, room int) int {
	left := room - 1 - vint.Size(f.Stream) - vint.Size(f.Offset)
	if left < 1 {
		return -1
	}
	// How many bytes there are is told in one byte or two.
	return left - vint.Size(left-1)
}
