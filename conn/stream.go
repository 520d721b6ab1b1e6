package conn

import (
	"slices"

	"turnbuckle/reasm"
)

// stream is one, in both directions.
type stream struct {
	out writer
	in  reader
}

// part is what a frame told of a stream: its letters from a place on, to ahead of another one; or up to where bytes may come.
type part struct {
	stream, from, to, limit int
}

// newStream is one on which nothing was written.
func newStream() stream {
	bytes, _ := reasm.New(Window)
	return stream{out: writer{limit: Window}, in: reader{bytes: bytes, sure: Window}}
}

// idle tells whether all was acked, and nothing is to be told.
func (s *stream) idle() bool {
	return len(s.out.rest) == 0 && s.in.idle()
}

// isOpen tells whether something of a part was not acked.
func (s *stream) isOpen(p part) bool {
	from, to := s.out.within(p)
	return from < to || p.limit > s.in.sure
}

// settle hears that a part was acked.
func (s *stream) settle(p part) {
	from, to := s.out.within(p)
	s.out.rest = slices.Delete(s.out.rest, from, to)
	s.in.sure = max(s.in.sure, p.limit)
}

// again lets a part be told again, as the datagram that told it is lost. No later one has told its letters; but of a limit it may have, and of a higher one.
func (s *stream) again(p part) {
	from, to := s.out.within(p)
	for i := from; i < to; i++ {
		s.out.rest[i].told = false
	}
	if p.limit == s.in.told {
		s.in.told = 0
	}
}
