package conn

import (
	"bytes"
	"fmt"
	"math"
	"math/rand"
	"testing"

	"turnbuckle/api"
	"turnbuckle/spans"
)

// What is asked of an end.
const (
	isWrite = iota
	isRead
	isStep
	isRecv
)

// call is one of a row, with its answer.
type call struct {
	role, what int
	stream, n  int // n: how many bytes to read, or now
	b          []byte
	fin        bool
	why        api.Errno
	out        []byte
}

// ask asks it of an end.
func (c call) ask(e *End) ([]byte, api.Errno) {
	switch c.what {
	case isWrite:
		return nil, e.Write(c.stream, c.b, c.fin)
	case isRead:
		return e.Read(c.stream, c.n), api.OK
	case isStep:
		return e.Step(c.n), api.OK
	}
	return nil, e.Recv(c.b, c.n)
}

// weather is how a network is: what it does to a datagram, of a hundred, and what is asked ahead of all.
type weather struct {
	lost, doubled, turned, back, mixed int
	write, read, most                  int // most: how many bytes are written at once
}

// way is a datagram on it, as it was made, and perhaps turned.
type way struct {
	made
	turned bool
}

// network is a connection with all that its ends are asked, and what the words tell of it.
type network struct {
	t     *testing.T
	r     *rand.Rand
	w     weather
	sides [2]*side
	way   []way
	now   int
	told  [2]map[int][]api.Frame // what the datagrams of a role tell, by their numbers
	acked [2][Streams][]bool     // which bytes of a role were acked
	open  [2][Streams]int        // how many were not
	took  [2]map[int]bool        // which datagrams of a role were taken
	calls []call
	count map[string]int
}

func newNetwork(t *testing.T, r *rand.Rand, w weather) *network {
	a, b := both(t, r.Uint64())
	n := &network{t: t, r: r, w: w, sides: [2]*side{a, b}, count: map[string]int{}}
	for role := range 2 {
		n.told[role], n.took[role] = map[int][]api.Frame{}, map[int]bool{}
	}
	return n
}

// ask asks something of an end, and remembers it.
func (n *network) ask(c call) call {
	n.t.Helper()
	given := string(c.b)
	c.out, c.why = c.ask(n.sides[c.role].e)
	if string(c.b) != given {
		n.t.Fatal("what was handed in was turned")
	}
	c.b, c.out = bytes.Clone(c.b), bytes.Clone(c.out)
	n.calls = append(n.calls, c)
	return c
}

// wantBounds wants an end to have as much queued as was written and not acked, and not too much.
func (n *network) wantBounds(role int) {
	n.t.Helper()
	s := n.sides[role]
	for i, open := range n.open[role] {
		if got := s.e.Queued(i); got != open || got > 2048 {
			n.t.Fatalf("Queued(%d) is %d, not %d", i, got, open)
		}
		if open > 0 && s.e.Idle() {
			n.t.Fatal("it is idle, though not all was acked")
		}
		other := n.sides[1-role]
		if s.e.Done(i) && !(other.closed[i] && len(s.read[i]) == len(other.wrote[i])) {
			n.t.Fatalf("stream %d is done ahead of its end", i)
		}
	}
}

// note notes what was written.
func (n *network) note(c call) {
	n.sides[c.role].noteWrote(c.stream, c.b, c.fin)
	n.acked[c.role][c.stream] = append(n.acked[c.role][c.stream], make([]bool, len(c.b))...)
	n.open[c.role][c.stream] += len(c.b)
}

// write writes something, of which the words tell whether it may be.
func (n *network) write(role int) {
	n.t.Helper()
	s := n.sides[role]
	c := call{role: role, what: isWrite, stream: n.r.Intn(Streams), fin: n.r.Intn(400) == 0, b: make([]byte, n.r.Intn(n.w.most+1))}
	n.r.Read(c.b)
	if n.r.Intn(50) == 0 {
		c.stream = []int{-1, 4, math.MinInt, math.MaxInt}[n.r.Intn(4)]
	}
	want := api.OK
	switch {
	case c.stream < 0 || c.stream >= Streams:
		want = api.ErrStream
	case s.closed[c.stream]:
		want = api.ErrOver
	case s.e.Queued(c.stream)+len(c.b) > 2048:
		want = api.ErrWait
	}
	if c = n.ask(c); c.why != want {
		n.t.Fatalf("Write(%d, %d bytes, %v) is %v, not %v", c.stream, len(c.b), c.fin, c.why, want)
	}
	if want == api.OK {
		n.note(c)
	}
	n.wantBounds(role)
	n.count["write "+want.Error()]++
}

// read reads few bytes or many, and wants what came without a gap.
func (n *network) read(role, most int) {
	n.t.Helper()
	n.readOn(role, n.r.Intn(Streams), n.r.Intn(most+1))
}

// readOn reads on one stream.
func (n *network) readOn(role, stream, most int) {
	n.t.Helper()
	s, other := n.sides[role], n.sides[1-role]
	c := n.ask(call{role: role, what: isRead, stream: stream, n: most})
	at := len(s.read[stream])
	s.read[stream] = append(s.read[stream], c.out...)
	other.wasRead[stream] += len(c.out)
	if len(c.out) > most || !bytes.HasPrefix(other.wrote[stream][at:], c.out) {
		n.t.Fatalf("what is read on stream %d is not what was written", stream)
	}
	n.wantBounds(role)
}

// time is the time, or none, or an earlier one.
func (n *network) time() int {
	switch n.r.Intn(40) {
	case 0:
		return []int{-1, math.MinInt, math.MaxInt, lastTime + 1}[n.r.Intn(4)]
	case 1:
		return n.r.Intn(n.now + 1)
	}
	return n.now
}

// step makes a datagram, which is held against the words, and sends it on its way.
func (n *network) step(role int) bool {
	n.t.Helper()
	s := n.sides[role]
	was := s.e.Idle()
	c := n.ask(call{role: role, what: isStep, n: n.time()})
	n.wantBounds(role)
	if c.out == nil {
		return false
	}
	if was {
		n.t.Fatal("an end that was idle told something")
	}
	number, l := peel(n.t, s.key, role, s.last, c.out)
	if number != s.last+1 {
		n.t.Fatalf("the datagram behind %d is %d", s.last, number)
	}
	s.last = number
	for _, f := range l {
		s.wantTold(f)
	}
	n.told[role][number] = l
	n.count["made"]++
	n.send(made{role, number, c.out})
	return true
}

// send is what the network does to a datagram ahead of its way.
func (n *network) send(d made) {
	if n.r.Intn(100) < n.w.lost {
		n.count["lost"]++
		return
	}
	n.way = append(n.way, way{made: d})
	if n.r.Intn(100) < n.w.doubled {
		n.count["doubled"]++
		n.way = append(n.way, way{made: d})
	}
	if n.r.Intn(100) < n.w.turned {
		n.count["turned"]++
		b := bytes.Clone(d.b)
		b[n.r.Intn(len(b))] ^= byte(1 + n.r.Intn(255))
		n.way[len(n.way)-1] = way{made: made{d.role, d.n, b}, turned: true}
	}
}

// deliver hands over a datagram that is on its way: mostly the first one.
func (n *network) deliver() {
	n.t.Helper()
	if len(n.way) == 0 {
		return
	}
	i := 0
	if n.r.Intn(100) < n.w.mixed {
		i = n.r.Intn(len(n.way))
	}
	d := n.way[i]
	if n.r.Intn(100) < n.w.back {
		// It comes back to the end that made it, too.
		c := n.ask(call{role: d.role, what: isRecv, b: d.b, n: n.time()})
		// One that is turned may be opened, but is no datagram then.
		if c.why != api.ErrTag && !(d.turned && c.why != api.OK) {
			n.t.Fatalf("an end takes what it made: %v", c.why)
		}
		n.count["back"]++
	}
	n.way = append(n.way[:i:i], n.way[i+1:]...)
	n.hand(d, n.time())
}

// hand hands a datagram over to the end that it was made for.
func (n *network) hand(d way, now int) {
	n.t.Helper()
	to := 1 - d.role
	want := api.OK
	switch {
	case d.turned:
		want = api.ErrTag
	case n.took[d.role][d.n]:
		want = api.ErrOrder
	}
	if c := n.ask(call{role: to, what: isRecv, b: d.b, n: now}); c.why != want {
		n.t.Fatalf("Recv of the datagram %d is %v, not %v", d.n, c.why, want)
	}
	n.count["recv "+want.Error()]++
	if want != api.OK {
		n.wantBounds(to)
		return
	}
	n.took[d.role][d.n] = true
	n.sides[to].noteCame(d.n)
	for _, f := range n.told[d.role][d.n] {
		if f.Kind == api.Ack {
			n.ack(to, f.Spans)
		}
	}
	n.wantBounds(to)
}

// ack notes which bytes were acked.
func (n *network) ack(role int, s []api.Span) {
	for number, l := range n.told[role] {
		if !spans.Has(s, number) {
			continue
		}
		for _, f := range l {
			if f.Kind == api.Stream {
				for i := range f.Data {
					n.ackByte(role, f.Stream, f.Offset+i)
				}
			}
		}
		delete(n.told[role], number)
	}
}

// ackByte notes that a byte was acked, once or again.
func (n *network) ackByte(role, stream, at int) {
	if !n.acked[role][stream][at] {
		n.acked[role][stream][at] = true
		n.open[role][stream]--
	}
}

// row is so many calls in mixed order.
func (n *network) row(steps int) {
	n.t.Helper()
	for range steps {
		role := n.r.Intn(2)
		switch k := n.r.Intn(100); {
		case k < n.w.write:
			n.write(role)
		case k < n.w.write+n.w.read:
			n.read(role, []int{3, 50, 3000}[n.r.Intn(3)])
		case k < 65:
			n.step(role)
		case k < 95:
			n.deliver()
		default:
			n.now += []int{0, 1, 10, 100, 1000, 30000}[n.r.Intn(6)]
		}
	}
}

// fair is one of the times of P10.6, just as it is said.
func (n *network) fair() {
	n.t.Helper()
	n.now += round
	n.w.lost, n.w.doubled, n.w.turned = 0, 0, 0
	for role := range 2 {
		for range 64 {
			if !n.step(role) {
				break
			}
		}
	}
	for _, d := range n.way {
		n.hand(d, n.now)
	}
	n.way = nil
	for role := range 2 {
		for i := range Streams {
			n.readOn(role, i, 5000)
		}
	}
}

// wantAll wants all that was written to be read, the ends to be told, and both ends to be idle.
func (n *network) wantAll() {
	n.t.Helper()
	for role := range 2 {
		s, other := n.sides[role], n.sides[1-role]
		for i := range Streams {
			if !bytes.Equal(s.read[i], other.wrote[i]) || s.e.Done(i) != other.closed[i] {
				n.t.Fatalf("stream %d: %d bytes of %d were read, done %v", i, len(s.read[i]), len(other.wrote[i]), s.e.Done(i))
			}
			if s.e.Queued(i) != 0 {
				n.t.Fatalf("stream %d: %d bytes were not acked", i, s.e.Queued(i))
			}
		}
		if !s.e.Idle() || n.step(role) {
			n.t.Fatal("an end is not idle")
		}
	}
}

// wantSame wants the ends to answer the same when they are asked the same again, but for what was refused: so that turned nothing.
func (n *network) wantSame() {
	n.t.Helper()
	var ends [2]*End
	for role := range ends {
		ends[role] = end(n.t, role, n.sides[role].key)
	}
	for i, c := range n.calls {
		if c.why != api.OK {
			continue
		}
		out, why := c.ask(ends[c.role])
		if why != api.OK || !bytes.Equal(out, c.out) {
			n.t.Fatalf("call %d has another answer without what was refused", i)
		}
	}
	for role := range ends {
		if look(ends[role]) != look(n.sides[role].e) {
			n.t.Fatal("an end is another one without what was refused")
		}
	}
}

// weathers are from fair to foul.
func weathers() []weather {
	return []weather{
		{write: 10, read: 15, most: 300},
		{lost: 10, mixed: 10, write: 10, read: 15, most: 300},
		{doubled: 30, mixed: 90, write: 10, read: 15, most: 700},
		{turned: 30, back: 20, mixed: 10, write: 10, read: 10, most: 1200},
		{lost: 30, doubled: 20, turned: 20, back: 10, mixed: 50, write: 10, read: 10, most: 500},
		{lost: 70, doubled: 50, turned: 10, back: 10, mixed: 100, write: 10, read: 10, most: 2100},
		{lost: 100, write: 20, read: 10, most: 1000},
		{lost: 20, doubled: 20, mixed: 30, write: 20, read: 1, most: 600},
		{lost: 20, doubled: 20, mixed: 30, write: 25, read: 15, most: 3},
		{lost: 5, mixed: 100, write: 20, read: 0, most: 2100},
	}
}

// P10.5 to P10.8: over long rows in mixed orders, whatever the network does; then all comes that was written.
func TestRows(t *testing.T) {
	r := rand.New(rand.NewSource(10))
	count := map[string]int{}
	for _, w := range weathers() {
		for range 8 {
			n := newNetwork(t, r, w)
			n.row(3000)
			for range 300 {
				n.fair()
			}
			n.wantAll()
			n.wantSame()
			for k, v := range n.count {
				count[k] += v
			}
		}
	}
	for _, what := range []string{"made", "lost", "doubled", "turned", "back", "write error 0", "write error 9", "write error 17", "write error 18", "recv error 0", "recv error 4", "recv error 14"} {
		if count[what] < 300 {
			t.Errorf("%s: only %d", what, count[what])
		}
	}
}

// P10.6: from a fresh beginning, with each of the streams alone, and with all of them; with the ends and without them.
func TestFairFromTheBeginning(t *testing.T) {
	for streams := range 1 << Streams {
		for _, size := range []int{0, 1, 1000, 1024, 1025, 2048} {
			n := newNetwork(t, rand.New(rand.NewSource(11)), weather{})
			for i := range Streams {
				if streams>>i&1 == 1 {
					for role := range 2 {
						n.note(n.ask(call{role: role, what: isWrite, stream: i, b: []byte(text(size)), fin: size%2 == role}))
					}
				}
			}
			for range 300 {
				n.fair()
			}
			n.wantAll()
		}
	}
}

// P10.6: if more is written meanwhile, what was written ahead of these times was read, and is acked.
func TestFairWhileMoreIsWritten(t *testing.T) {
	r := rand.New(rand.NewSource(12))
	for k, w := range weathers() {
		for range 3 {
			n := newNetwork(t, r, w)
			n.row(2000)
			var ahead [2][Streams]int
			for role, s := range n.sides {
				for i := range Streams {
					ahead[role][i] = len(s.wrote[i])
				}
			}
			n.w.most = []int{1, 300, 2048}[k%3]
			for range 300 {
				for range 10 {
					n.write(0)
					n.write(1)
				}
				n.fair()
			}
			for role, s := range n.sides {
				for i := range Streams {
					if got := len(n.sides[1-role].read[i]); got < ahead[role][i] {
						t.Fatalf("stream %d: %d bytes were read of %d", i, got, ahead[role][i])
					}
					for at := range ahead[role][i] {
						if !n.acked[role][i][at] {
							t.Fatalf("stream %d: byte %d was not acked", i, at)
						}
					}
					if len(s.wrote[i]) == ahead[role][i] && !s.closed[i] {
						t.Errorf("nothing more was written on stream %d", i)
					}
				}
			}
		}
	}
}

// P10.5, P10.6: whole texts go over in both directions on all streams, by several windows' worth, in all weathers that let anything through.
func TestTexts(t *testing.T) {
	r := rand.New(rand.NewSource(13))
	for k, w := range weathers() {
		if w.lost == 100 || w.read == 0 {
			continue
		}
		n := newNetwork(t, r, w)
		var all [2][Streams]string
		for role := range 2 {
			for i := range Streams {
				all[role][i] = fmt.Sprint(k, role, i) + text(3*Window+r.Intn(3*Window))
			}
		}
		rounds := 0
		for done := false; !done; rounds++ {
			if rounds > 5000 {
				t.Fatalf("weather %d: it takes too long", k)
			}
			done = true
			for role, s := range n.sides {
				for i := range Streams {
					rest := all[role][i][len(s.wrote[i]):]
					size := min(len(rest), 1+r.Intn(700), 2048-s.e.Queued(i))
					if size > 0 {
						n.note(n.ask(call{role: role, what: isWrite, stream: i, b: []byte(rest[:size]), fin: size == len(rest)}))
					}
					done = done && n.sides[1-role].e.Done(i)
				}
			}
			for range 30 {
				switch r.Intn(4) {
				case 0:
					n.read(r.Intn(2), 2000)
				case 1, 2:
					n.step(r.Intn(2))
				case 3:
					n.deliver()
				}
			}
			n.now += []int{0, 10, 1000, 1 << 17}[r.Intn(4)]
		}
		for role := range 2 {
			for i := range Streams {
				if string(n.sides[1-role].read[i]) != all[role][i] {
					t.Errorf("weather %d: stream %d is not what was written", k, i)
				}
			}
		}
		n.wantSame()
	}
}
