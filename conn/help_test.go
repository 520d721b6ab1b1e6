package conn

import (
	"bytes"
	"fmt"
	"testing"

	"turnbuckle/api"
	"turnbuckle/frames"
	"turnbuckle/pnum"
	"turnbuckle/spans"
	"turnbuckle/tag"
)

const (
	// lastTime is the last time that there is.
	lastTime = 1 << 40
	// round is how much later each of the rounds of P10.6 is.
	round = 1 << 21
	// someKey is a key like any other.
	someKey = 0x0123456789ABCDEF
)

// made is a datagram on its way.
type made struct {
	role, n int
	b       []byte
}

// side is an end with what was asked of it, as the words tell it: each datagram that it makes is held against this.
type side struct {
	t       *testing.T
	e       *End
	role    int
	key     uint64
	last    int        // the number of the last datagram that it made
	came    []api.Span // the numbers of those that it took
	wrote   [Streams][]byte
	closed  [Streams]bool
	read    [Streams][]byte
	wasRead [Streams]int // how many bytes of a stream the other end has read
}

func end(t *testing.T, role int, key uint64) *End {
	t.Helper()
	e, why := New(role, key)
	if e == nil || why != api.OK {
		t.Fatalf("New(%d, %X) is %v, %v", role, key, e, why)
	}
	return e
}

// both are the two ends of a connection.
func both(t *testing.T, key uint64) (*side, *side) {
	t.Helper()
	a := &side{t: t, e: end(t, 0, key), role: 0, key: key, last: -1}
	b := &side{t: t, e: end(t, 1, key), role: 1, key: key, last: -1}
	return a, b
}

// sealKey is the key under which the end with this role seals.
func sealKey(key uint64, role int) uint64 {
	return key ^ [2]uint64{1, 2}[role]
}

// forge is a datagram of an end with this role, with its number in so many bytes.
func forge(key uint64, role, n, width int, l ...api.Frame) []byte {
	told, why := frames.Encode(l)
	if why != api.OK {
		panic(why)
	}
	return forgeBody(key, role, n, width, told)
}

// forgeBody is forge of bytes that need not be frames.
func forgeBody(key uint64, role, n, width int, told []byte) []byte {
	body := []byte{byte(width)}
	for i := width - 1; i >= 0; i-- {
		body = append(body, byte(n>>(8*i)))
	}
	return tag.Seal(sealKey(key, role), append(body, told...))
}

// peel opens a datagram and wants it to be as the chapter says; it answers its number and its frames.
func peel(t *testing.T, key uint64, role, largest int, b []byte) (int, []api.Frame) {
	t.Helper()
	if len(b) > 1200 {
		t.Fatalf("a datagram of %d bytes", len(b))
	}
	body, why := tag.Open(sealKey(key, role), b)
	if why != api.OK {
		t.Fatalf("a datagram is not opened: %v", why)
	}
	width := int(body[0])
	if width < 1 || width > 4 || len(body) < 1+width {
		t.Fatalf("a number of %d bytes", width)
	}
	cut := 0
	for _, v := range body[1 : 1+width] {
		cut = cut<<8 | int(v)
	}
	n, why := pnum.Grow(largest, cut, width)
	if why != api.OK {
		t.Fatalf("a number that does not grow: %v", why)
	}
	l, fault := frames.Decode(body[1+width:])
	if fault.Why != api.OK || len(l) == 0 {
		t.Fatalf("frames %v, %v", l, fault)
	}
	return n, l
}

// step makes a datagram, if there is something to tell, and holds it against the words.
func (s *side) step(now int) (made, bool) {
	s.t.Helper()
	was, queued := s.e.Idle(), s.queued()
	b := s.e.Step(now)
	if s.queued() != queued {
		s.t.Fatalf("Step turned how much is queued: %v, %v", queued, s.queued())
	}
	if b == nil {
		return made{}, false
	}
	if was {
		s.t.Fatalf("an end that was idle told something")
	}
	n, l := peel(s.t, s.key, s.role, s.last, b)
	if n != s.last+1 {
		s.t.Fatalf("the datagram behind %d is %d", s.last, n)
	}
	s.last = n
	for _, f := range l {
		s.wantTold(f)
	}
	return made{s.role, n, b}, true
}

// wantTold wants a frame to tell what is so.
func (s *side) wantTold(f api.Frame) {
	s.t.Helper()
	switch f.Kind {
	case api.Ack:
		for _, span := range f.Spans {
			gaps, _ := spans.Gaps(s.nearCame(span), span.From, span.To)
			if len(gaps) > 0 {
				s.t.Fatalf("an ack of %v, of which %v never came", span, gaps)
			}
		}
	case api.Stream:
		to := f.Offset + len(f.Data)
		if f.Stream >= Streams || to > len(s.wrote[f.Stream]) || !bytes.Equal(s.wrote[f.Stream][f.Offset:to], f.Data) {
			s.t.Fatalf("bytes that were not written on stream %d at %d: %q", f.Stream, f.Offset, f.Data)
		}
		if f.Fin && (!s.closed[f.Stream] || to != len(s.wrote[f.Stream])) {
			s.t.Fatalf("%d is told as the end of stream %d", to, f.Stream)
		}
		if to > s.wasRead[f.Stream]+1024 {
			s.t.Fatalf("bytes up to %d of stream %d, of which %d were read", to, f.Stream, s.wasRead[f.Stream])
		}
	case api.MaxOn:
		if f.Stream >= Streams || f.N > len(s.read[f.Stream])+1024 {
			s.t.Fatalf("%d is told as the limit of stream %d, of which %d were read", f.N, f.Stream, len(s.read[f.Stream]))
		}
	}
}

// nearCame are those spans of what came that a span lies in.
func (s *side) nearCame(span api.Span) []api.Span {
	for i, c := range s.came {
		if c.From <= span.From && span.To <= c.To {
			return s.came[i : i+1]
		}
	}
	return nil
}

// take takes a datagram that came rightly, and has not come yet.
func (s *side) take(d made, now int) {
	s.t.Helper()
	if why := s.e.Recv(d.b, now); why != api.OK {
		s.t.Fatalf("Recv of the datagram %d is %v", d.n, why)
	}
	s.noteCame(d.n)
}

// takeForged takes a datagram that was made by hand.
func (s *side) takeForged(n int, l ...api.Frame) {
	s.t.Helper()
	s.takeAt(0, n, l...)
}

// takeAt is takeForged at a time.
func (s *side) takeAt(now, n int, l ...api.Frame) {
	s.t.Helper()
	s.take(made{n: n, b: forge(s.key, 1-s.role, n, 4, l...)}, now)
}

// noteCame is a set without a bound, as spans.Add has one.
func (s *side) noteCame(n int) {
	i := 0
	for i < len(s.came) && s.came[i].To < n-1 {
		i++
	}
	near := s.came[i:min(i+2, len(s.came))]
	joined, _ := spans.Add(near, n, n)
	s.came = append(append(append([]api.Span{}, s.came[:i]...), joined...), s.came[i+len(near):]...)
}

// refuse wants a datagram to be refused, and nothing to turn that can be seen.
func (s *side) refuse(b []byte, now int, why api.Errno) {
	s.t.Helper()
	was := look(s.e)
	if got := s.e.Recv(b, now); got != why {
		s.t.Fatalf("Recv is %v, not %v", got, why)
	}
	if is := look(s.e); is != was {
		s.t.Fatalf("what was refused turned something: %+v, %+v", was, is)
	}
}

// write writes what has to have room.
func (s *side) write(stream int, b string, fin bool) {
	s.t.Helper()
	if why := s.e.Write(stream, []byte(b), fin); why != api.OK {
		s.t.Fatalf("Write(%d, %d bytes, %v) is %v", stream, len(b), fin, why)
	}
	s.noteWrote(stream, []byte(b), fin)
}

func (s *side) noteWrote(stream int, b []byte, fin bool) {
	s.wrote[stream] = append(s.wrote[stream], b...)
	s.closed[stream] = s.closed[stream] || fin
}

// refuseWrite wants something not to be written, and nothing to turn.
func (s *side) refuseWrite(stream int, b []byte, fin bool, why api.Errno) {
	s.t.Helper()
	was := look(s.e)
	if got := s.e.Write(stream, b, fin); got != why {
		s.t.Fatalf("Write(%d, %d bytes, %v) is %v, not %v", stream, len(b), fin, got, why)
	}
	if is := look(s.e); is != was {
		s.t.Fatalf("what was refused turned something: %+v, %+v", was, is)
	}
}

// reads reads, and holds what it has against what the other end wrote.
func (s *side) reads(other *side, stream, n int) string {
	s.t.Helper()
	b := s.e.Read(stream, n)
	if len(b) > max(n, 0) {
		s.t.Fatalf("Read(%d, %d) has %d bytes", stream, n, len(b))
	}
	s.read[stream] = append(s.read[stream], b...)
	other.wasRead[stream] += len(b)
	if !bytes.HasPrefix(other.wrote[stream], s.read[stream]) {
		s.t.Fatalf("what was read on stream %d is not what was written", stream)
	}
	done := other.closed[stream] && len(s.read[stream]) == len(other.wrote[stream])
	if s.e.Done(stream) && !done {
		s.t.Fatalf("stream %d is done ahead of its end", stream)
	}
	return string(b)
}

// wantRead wants just these bytes to be read.
func (s *side) wantRead(other *side, stream, n int, want string) {
	s.t.Helper()
	if got := s.reads(other, stream, n); got != want {
		s.t.Fatalf("Read(%d, %d) is %q, not %q", stream, n, got, want)
	}
}

// readAll reads all that is there on all streams.
func (s *side) readAll(other *side) {
	s.t.Helper()
	for i := range Streams {
		s.reads(other, i, 5000)
	}
}

func (s *side) queued() [Streams]int {
	return look(s.e).queued
}

func (s *side) wantQueued(want ...int) {
	s.t.Helper()
	for i, w := range want {
		if got := s.e.Queued(i); got != w {
			s.t.Fatalf("Queued(%d) is %d, not %d", i, got, w)
		}
	}
}

// wantIdle wants an end to have nothing to tell, or to have something.
func (s *side) wantIdle(want bool) {
	s.t.Helper()
	if got := s.e.Idle(); got != want {
		s.t.Fatalf("Idle is %v", got)
	}
}

// wantSilent wants an end to have nothing to tell.
func (s *side) wantSilent(now int) {
	s.t.Helper()
	if d, ok := s.step(now); ok {
		s.t.Fatalf("there is nothing to tell, but a datagram of %d bytes is", len(d.b))
	}
}

// wantStep wants an end to have something to tell, and answers its frames.
func (s *side) wantStep(now int) (made, []api.Frame) {
	s.t.Helper()
	d, ok := s.step(now)
	if !ok {
		s.t.Fatalf("nothing is told")
	}
	_, l := peel(s.t, s.key, s.role, d.n-1, d.b)
	return d, l
}

// all is all that an end has to tell now.
func (s *side) all(now int) []made {
	s.t.Helper()
	var l []made
	for range 64 {
		d, ok := s.step(now)
		if !ok {
			return l
		}
		l = append(l, d)
	}
	s.t.Fatalf("an end goes on and on")
	return nil
}

// handOver has a side tell all that it has to, and another one take it; it tells how many datagrams that were.
func (s *side) handOver(other *side, now int) int {
	s.t.Helper()
	l := s.all(now)
	for _, d := range l {
		other.take(d, now)
	}
	return len(l)
}

// settle has two sides tell each other what they have to, until neither has anything.
func settle(a, b *side, now int) {
	a.t.Helper()
	for range 100 {
		if a.handOver(b, now)+b.handOver(a, now) == 0 {
			return
		}
	}
	a.t.Fatalf("two ends go on and on")
}

// seen is all that an end answers without being turned.
type seen struct {
	queued [Streams]int
	done   [Streams]bool
	idle   bool
}

func look(e *End) seen {
	s := seen{idle: e.Idle()}
	for i := range Streams {
		s.queued[i], s.done[i] = e.Queued(i), e.Done(i)
	}
	return s
}

// toldOn are the bytes of one stream that frames tell, in the order of telling, with their offsets.
func toldOn(l []api.Frame, stream int) string {
	var out string
	for _, f := range l {
		if f.Kind == api.Stream && f.Stream == stream {
			out += fmt.Sprintf("%d:%s", f.Offset, f.Data)
			if f.Fin {
				out += "."
			}
		}
	}
	return out
}

// kinds are the kinds of frames.
func kinds(l []api.Frame) []int {
	var out []int
	for _, f := range l {
		out = append(out, f.Kind)
	}
	return out
}

// text is so many bytes of which no two that lie near are alike.
func text(n int) string {
	b := make([]byte, n)
	for i := range b {
		b[i] = byte(i*7 + i>>8)
	}
	return string(b)
}

// at are bytes of a stream.
func at(stream, offset int, b string, fin bool) api.Frame {
	return api.Frame{Kind: api.Stream, Stream: stream, Offset: offset, Data: []byte(b), Fin: fin}
}

// ackOf is an ack of the numbers from one to another.
func ackOf(from, to int) api.Frame {
	return api.Frame{Kind: api.Ack, Spans: []api.Span{{From: from, To: to}}}
}
