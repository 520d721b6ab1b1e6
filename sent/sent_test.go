package sent

import (
	"math"
	"slices"
	"testing"

	"turnbuckle/api"
)

const (
	// highest is the highest number of a datagram.
	highest = 1<<62 - 1
	// end is the last time.
	end = 1 << 40
)

// set is a set that is told by its spans' ends, two by two.
func set(ends ...int) []api.Span {
	var l []api.Span
	for i := 0; i < len(ends); i += 2 {
		l = append(l, api.Span{From: ends[i], To: ends[i+1]})
	}
	return l
}

// ones is a set of single numbers.
func ones(numbers ...int) []api.Span {
	var l []api.Span
	for _, n := range numbers {
		l = append(l, api.Span{From: n, To: n})
	}
	return l
}

// packet is a datagram as send and ledger send it: its size tells its number, too.
func packet(n, time int) Packet { return Packet{N: n, Time: time, Size: 100 + n%1000} }

// packets are such datagrams of one time.
func packets(time int, numbers ...int) []Packet {
	var l []Packet
	for _, n := range numbers {
		l = append(l, packet(n, time))
	}
	return l
}

// send sends datagrams at one time, and wants them to be out then.
func send(t *testing.T, l *Ledger, time int, numbers ...int) {
	t.Helper()
	for _, n := range numbers {
		if e := l.Sent(n, time, packet(n, time).Size); e != api.OK {
			t.Fatalf("Sent(%d, %d) is %v", n, time, e)
		}
	}
}

// ledger is one of which datagrams were sent at one time.
func ledger(t *testing.T, time int, numbers ...int) *Ledger {
	t.Helper()
	l := New()
	send(t, l, time, numbers...)
	return l
}

// upTo are the numbers from 0 to one.
func upTo(last int) []int {
	var l []int
	for n := range last + 1 {
		l = append(l, n)
	}
	return l
}

func want(t *testing.T, name string, got, w []Packet) {
	t.Helper()
	if !slices.Equal(got, w) {
		t.Errorf("%s: %v, not %v", name, got, w)
	}
}

func wantErrno(t *testing.T, name string, got, w api.Errno) {
	t.Helper()
	if got != w {
		t.Errorf("%s is %v, not %v", name, got, w)
	}
}

func wantNumber(t *testing.T, name string, got, w int) {
	t.Helper()
	if got != w {
		t.Errorf("%s is %d, not %d", name, got, w)
	}
}

// wantState wants those to be out, and that to be the largest.
func wantState(t *testing.T, l *Ledger, out []Packet, largest int) {
	t.Helper()
	for range 2 { // asked twice, it answers the same
		want(t, "Out", l.Out(), out)
		wantNumber(t, "Largest", l.Largest(), largest)
	}
}

func wantAck(t *testing.T, l *Ledger, s []api.Span, now, wait int, acked, lost []Packet) {
	t.Helper()
	a, b, e := l.Ack(s, now, wait)
	want(t, "acked", a, acked)
	want(t, "lost", b, lost)
	wantErrno(t, "Ack", e, api.OK)
}

func refusesAck(t *testing.T, l *Ledger, s []api.Span, now, wait int, why api.Errno) {
	t.Helper()
	a, b, e := l.Ack(s, now, wait)
	if len(a) != 0 || len(b) != 0 || e != why {
		t.Errorf("Ack(%v, %d, %d) is %v, %v, %v, not %v", s, now, wait, a, b, e, why)
	}
}

// wrongNumbers are no datagrams'.
func wrongNumbers() []int {
	return []int{-1, -2, -highest, math.MinInt, highest + 1, highest + 2, math.MaxInt}
}

// wrongTimes are no times.
func wrongTimes() []int {
	return []int{-1, -2, -end, math.MinInt, end + 1, end + 2, 2 * end, math.MaxInt}
}

// wrongSizes are no datagrams'.
func wrongSizes() []int {
	return []int{0, -1, -1200, math.MinInt, 1201, 1202, 2400, math.MaxInt}
}

// wrongWaits are no waits.
func wrongWaits() []int {
	return append(wrongTimes(), 0)
}

// wrongSets are sets that may not be, or are empty.
func wrongSets() [][]api.Span {
	var many []api.Span
	for n := range 257 {
		many = append(many, api.Span{From: 2 * n, To: 2 * n})
	}
	return [][]api.Span{
		nil,
		{},
		set(2, 1),
		set(-1, -1),
		set(-1, 3),
		set(0, -1),
		set(math.MinInt, 1),
		set(math.MinInt, math.MaxInt),
		set(0, highest+1),
		set(highest+1, highest+1),
		set(0, math.MaxInt),
		set(1, 2, 3, 4),       // touch
		set(0, 2, 1, 4),       // overlap
		set(3, 4, 0, 1),       // fall
		set(0, 0, 0, 0),       // twice the same
		set(0, 0, 3, 2),       // a wrong one behind a right one
		set(-3, -2, 0, 1),     // a wrong one ahead of a right one
		set(0, 1, 3, 3, 5, 4), // a wrong one at the end
		many,
	}
}

// P8.1

func TestSent(t *testing.T) {
	cases := []struct {
		name string
		p    Packet
	}{
		{"all least", Packet{0, 0, 1}},
		{"the highest number", Packet{highest, 0, 1}},
		{"the last time", Packet{0, end, 1}},
		{"the greatest size", Packet{0, 0, 1200}},
		{"all greatest", Packet{highest, end, 1200}},
		{"any", Packet{5, 70, 300}},
	}
	for _, c := range cases {
		t.Run(c.name, func(t *testing.T) {
			l := New()
			wantErrno(t, "Sent", l.Sent(c.p.N, c.p.Time, c.p.Size), api.OK)
			wantState(t, l, []Packet{c.p}, -1)
		})
	}
}

func TestSentOfMany(t *testing.T) {
	l := New()
	var out []Packet
	for _, p := range []Packet{{0, 0, 1}, {1, 0, 1200}, {2, 1, 1}, {9, 1, 600}, {10, end - 1, 2}, {highest - 1, end, 3}, {highest, end, 4}} {
		wantErrno(t, "Sent", l.Sent(p.N, p.Time, p.Size), api.OK)
		out = append(out, p)
		wantState(t, l, out, -1)
	}
}

func TestSentOfWrongNumbers(t *testing.T) {
	l := ledger(t, 50, 3, 4)
	for _, n := range wrongNumbers() {
		wantErrno(t, "Sent", l.Sent(n, 60, 100), api.ErrArg)
		wantErrno(t, "Sent of the first one", New().Sent(n, 60, 100), api.ErrArg)
	}
	for _, time := range wrongTimes() {
		wantErrno(t, "Sent", l.Sent(5, time, 100), api.ErrArg)
		wantErrno(t, "Sent of the first one", New().Sent(5, time, 100), api.ErrArg)
	}
	for _, size := range wrongSizes() {
		wantErrno(t, "Sent", l.Sent(5, 60, size), api.ErrArg)
		wantErrno(t, "Sent of the first one", New().Sent(5, 60, size), api.ErrArg)
	}
	wantState(t, l, packets(50, 3, 4), -1)
	send(t, l, 50, 5) // and neither its number nor its time was taken
}

func TestSentInOrder(t *testing.T) {
	cases := []struct {
		name    string
		n, time int
		why     api.Errno
	}{
		{"the last number", 7, 50, api.ErrOrder},
		{"one less", 6, 50, api.ErrOrder},
		{"the first number", 4, 50, api.ErrOrder},
		{"less than all", 0, 50, api.ErrOrder},
		{"a number that was left out", 5, 50, api.ErrOrder},
		{"one more", 8, 50, api.OK},
		{"far more", highest, 50, api.OK},
		{"the last number, later", 7, 51, api.ErrOrder},
		{"one tick less", 8, 49, api.ErrOrder},
		{"the time 0", 8, 0, api.ErrOrder},
		{"one tick more", 8, 51, api.OK},
		{"both", 6, 49, api.ErrOrder},
	}
	for _, c := range cases {
		t.Run(c.name, func(t *testing.T) {
			l := ledger(t, 50, 4, 7)
			wantErrno(t, "Sent", l.Sent(c.n, c.time, 300), c.why)
			out := packets(50, 4, 7)
			if c.why == api.OK {
				out = append(out, Packet{c.n, c.time, 300})
			}
			wantState(t, l, out, -1)
		})
	}
}

func TestSentOfWhatIsSettled(t *testing.T) {
	settled := map[string]func(l *Ledger){
		"acked":   func(l *Ledger) { l.Ack(set(0, 4), 50, 10) },
		"lost":    func(l *Ledger) { l.Ack(ones(4), 90, 10) },
		"dropped": func(l *Ledger) { l.Drop() },
	}
	for name, settle := range settled {
		t.Run(name, func(t *testing.T) {
			l := ledger(t, 50, upTo(4)...)
			settle(l)
			if out := l.Out(); len(out) != 0 {
				t.Fatalf("out: %v", out)
			}
			for n := range 5 {
				wantErrno(t, "Sent", l.Sent(n, 50, 100), api.ErrOrder)
			}
			wantErrno(t, "Sent ahead of the last time", l.Sent(5, 49, 100), api.ErrOrder)
			send(t, l, 50, 5)
		})
	}
}

func TestSentBehindTheHighest(t *testing.T) {
	l := ledger(t, 0, highest)
	wantErrno(t, "Sent again", l.Sent(highest, 0, 1), api.ErrOrder)
	wantErrno(t, "Sent of one less", l.Sent(highest-1, 0, 1), api.ErrOrder)
	wantErrno(t, "Sent of one more", l.Sent(highest+1, 0, 1), api.ErrArg)
	l = ledger(t, end, 0)
	wantErrno(t, "Sent a tick ahead", l.Sent(1, end-1, 1), api.ErrOrder)
	wantErrno(t, "Sent a tick behind", l.Sent(1, end+1, 1), api.ErrArg)
	send(t, l, end, 1)
}

func TestSentOfTooMany(t *testing.T) {
	l := ledger(t, 5, upTo(510)...) // 511
	wantNumber(t, "how many are out", len(l.Out()), 511)
	send(t, l, 5, 511)
	wantNumber(t, "how many are out", len(l.Out()), 512)
	wantErrno(t, "Sent of the 513th", l.Sent(512, 5, 1), api.ErrMany)
	wantErrno(t, "Sent of it, later", l.Sent(600, 9, 1), api.ErrMany)
	wantState(t, l, packets(5, upTo(511)...), -1)
	wantAck(t, l, ones(0), 5, 10, packets(5, 0), nil)
	send(t, l, 5, 512) // the number and the time that were refused are not taken
	wantErrno(t, "Sent of one more", l.Sent(513, 5, 1), api.ErrMany)
	wantNumber(t, "how many are out", len(l.Out()), 512)
	wantNumber(t, "how many were dropped", len(l.Drop()), 512)
	send(t, l, 5, 513)
}

func TestSentBehindLosses(t *testing.T) {
	l := ledger(t, 5, upTo(511)...)
	wantAck(t, l, ones(4), 5, 10, packets(5, 4), packets(5, 0, 1))
	send(t, l, 5, 600, 601, 602) // three have gone
	wantErrno(t, "Sent", l.Sent(603, 5, 1), api.ErrMany)
	wantNumber(t, "how many are lost", len(l.Lose(15, 10)), 2)
	send(t, l, 5, 603, 604)
	wantErrno(t, "Sent", l.Sent(605, 5, 1), api.ErrMany)
}

func TestWhichErrorOfSent(t *testing.T) {
	full := ledger(t, 50, upTo(511)...)
	few := ledger(t, 50, 511)
	for _, l := range []*Ledger{full, few} {
		wantErrno(t, "a wrong number, too early", l.Sent(-1, 49, 1), api.ErrArg)
		wantErrno(t, "a number that is too high, too early", l.Sent(highest+1, 49, 1), api.ErrArg)
		wantErrno(t, "a wrong time, the last number", l.Sent(511, -1, 1), api.ErrArg)
		wantErrno(t, "a time that is too late, the last number", l.Sent(511, end+1, 1), api.ErrArg)
		wantErrno(t, "no bytes, the last number", l.Sent(511, 50, 0), api.ErrArg)
		wantErrno(t, "too many bytes, too early", l.Sent(512, 49, 1201), api.ErrArg)
		wantErrno(t, "the last number", l.Sent(511, 50, 1), api.ErrOrder)
		wantErrno(t, "too early", l.Sent(512, 49, 1), api.ErrOrder)
	}
	wantErrno(t, "a wrong number, too many", full.Sent(highest+1, 50, 1), api.ErrArg)
	wantErrno(t, "a wrong time, too many", full.Sent(512, end+1, 1), api.ErrArg)
	wantErrno(t, "too many bytes, too many", full.Sent(512, 50, 1201), api.ErrArg)
	wantErrno(t, "too many", full.Sent(512, 50, 1), api.ErrMany)
	wantErrno(t, "not too many", few.Sent(512, 50, 1), api.OK)
}

// P8.2

func TestExampleOne(t *testing.T) {
	l := ledger(t, 50, upTo(4)...)
	wantAck(t, l, ones(4), 50, 10, packets(50, 4), packets(50, 0, 1))
	wantState(t, l, packets(50, 2, 3), 4)
}

func TestAck(t *testing.T) {
	// Sent were 2, 3, 4, 6 and 7, at 50; the wait is so long that none is lost by its time.
	cases := []struct {
		name        string
		s           []api.Span
		acked, lost []int
		out         []int
		largest     int
	}{
		{"the first one", ones(2), []int{2}, nil, []int{3, 4, 6, 7}, 2},
		{"the second one", ones(3), []int{3}, nil, []int{2, 4, 6, 7}, 3},
		{"the last one", ones(7), []int{7}, []int{2, 3, 4}, []int{6}, 7},
		{"all of them", set(2, 7), []int{2, 3, 4, 6, 7}, nil, nil, 7},
		{"all numbers so far", set(0, 7), []int{2, 3, 4, 6, 7}, nil, nil, 7},
		{"some", ones(2, 4, 7), []int{2, 4, 7}, []int{3}, []int{6}, 7},
		{"a number that was left out", ones(5), nil, []int{2}, []int{3, 4, 6, 7}, 5},
		{"numbers ahead of all", set(0, 1), nil, nil, []int{2, 3, 4, 6, 7}, 1},
		{"some that are out, some not", set(0, 0, 4, 6), []int{4, 6}, []int{2, 3}, []int{7}, 6},
		{"one that is out, at a span's beginning", set(4, 5), []int{4}, []int{2}, []int{3, 6, 7}, 5},
		{"one that is out, at a span's end", set(5, 6), []int{6}, []int{2, 3}, []int{4, 7}, 6},
		{"1, 2 and 3 below", ones(6), []int{6}, []int{2, 3}, []int{4, 7}, 6},
	}
	for _, c := range cases {
		t.Run(c.name, func(t *testing.T) {
			l := ledger(t, 50, 2, 3, 4, 6, 7)
			wantAck(t, l, c.s, 50, 1000, packets(50, c.acked...), packets(50, c.lost...))
			wantState(t, l, packets(50, c.out...), c.largest)
		})
	}
}

func TestAckAgain(t *testing.T) {
	l := ledger(t, 50, upTo(6)...)
	wantAck(t, l, set(0, 0, 2, 3), 50, 1000, packets(50, 0, 2, 3), nil)
	wantState(t, l, packets(50, 1, 4, 5, 6), 3)
	for range 3 { // the same numbers
		wantAck(t, l, set(0, 0, 2, 3), 50, 1000, nil, nil)
		wantState(t, l, packets(50, 1, 4, 5, 6), 3)
	}
	wantAck(t, l, set(0, 0, 2, 4), 50, 1000, packets(50, 4), packets(50, 1)) // one more
	wantAck(t, l, set(0, 4), 50, 1000, nil, nil)                             // one that is lost
	wantState(t, l, packets(50, 5, 6), 4)
}

func TestAckBelowTheLargest(t *testing.T) {
	l := ledger(t, 50, upTo(7)...)
	wantAck(t, l, set(4, 6), 50, 1000, packets(50, 4, 5, 6), packets(50, 0, 1, 2, 3))
	l = ledger(t, 50, upTo(7)...)
	wantAck(t, l, ones(5), 50, 1000, packets(50, 5), packets(50, 0, 1, 2))
	wantAck(t, l, ones(4), 50, 1000, packets(50, 4), nil)
	wantState(t, l, packets(50, 3, 6, 7), 5)
	wantAck(t, l, ones(0), 50, 1000, nil, nil)
	wantState(t, l, packets(50, 3, 6, 7), 5)
	wantAck(t, l, ones(3), 50, 1000, packets(50, 3), nil)
	wantState(t, l, packets(50, 6, 7), 5)
}

func TestAckOfWhatIsLostOtherwise(t *testing.T) {
	// What is in the ack is acked, and not lost, though it lies far below and was sent long ago.
	l := ledger(t, 0, upTo(9)...)
	wantAck(t, l, set(0, 2, 9, 9), end, 1, packets(0, 0, 1, 2, 9), packets(0, 3, 4, 5, 6, 7, 8))
	wantState(t, l, nil, 9)
}

func TestAckUpToTheLast(t *testing.T) {
	for _, last := range []int{0, 1, 7, highest - 1, highest} {
		l := ledger(t, 50, last)
		if last < highest {
			refusesAck(t, l, ones(last+1), 50, 10, api.ErrOrder)
			refusesAck(t, l, set(0, last+1), 50, 10, api.ErrOrder)
			refusesAck(t, l, set(last, highest), 50, 10, api.ErrOrder)
			refusesAck(t, l, ones(highest), 50, 10, api.ErrOrder)
		} else {
			refusesAck(t, l, ones(last+1), 50, 10, api.ErrArg)
		}
		wantState(t, l, packets(50, last), -1)
		wantAck(t, l, ones(last), 50, 10, packets(50, last), nil)
		wantState(t, l, nil, last)
	}
	l := ledger(t, 50, 2, 5)
	refusesAck(t, l, ones(0, 2, 6), 50, 10, api.ErrOrder) // one of which only the last number is too high
	wantState(t, l, packets(50, 2, 5), -1)
	wantAck(t, l, ones(0, 2, 5), 50, 10, packets(50, 2, 5), nil)
	wantAck(t, l, ones(5), 50, 10, nil, nil) // nothing is out, and 5 was still the last one
	refusesAck(t, l, ones(6), 50, 10, api.ErrOrder)
}

func TestAckOfManySpans(t *testing.T) {
	l := ledger(t, 50, upTo(511)...)
	var s []api.Span
	var acked, lost []int
	for n := range 256 {
		s = append(s, api.Span{From: 2*n + 1, To: 2*n + 1})
		acked = append(acked, 2*n+1)
		lost = append(lost, 2*n)
	}
	lost = lost[:255] // 510 is one below the largest
	wantAck(t, l, s, 50, 1000, packets(50, acked...), packets(50, lost...))
	wantState(t, l, packets(50, 510), 511)
}

func TestAckOfAWholeSet(t *testing.T) {
	l := ledger(t, 0, 0, 1<<40, highest-1, highest)
	wantAck(t, l, set(0, highest), 0, 1, packets(0, 0, 1<<40, highest-1, highest), nil)
	wantState(t, l, nil, highest)
}

func TestLostByNumber(t *testing.T) {
	for below := 1; below <= 6; below++ {
		for _, top := range []int{6, 100, highest} {
			l := ledger(t, 50, top-below, top)
			if below < 3 {
				wantAck(t, l, ones(top), 50, end, packets(50, top), nil)
				wantState(t, l, packets(50, top-below), top)
				continue
			}
			wantAck(t, l, ones(top), 50, end, packets(50, top), packets(50, top-below))
			wantState(t, l, nil, top)
		}
	}
	l := ledger(t, 50, 0, highest)
	wantAck(t, l, ones(highest), 50, end, packets(50, highest), packets(50, 0))
}

func TestLostByTime(t *testing.T) {
	cases := []struct {
		name            string
		time, now, wait int
		lost            bool
	}{
		{"just so long ago", 50, 60, 10, true},
		{"one tick less", 50, 59, 10, false},
		{"one tick more", 50, 61, 10, true},
		{"at once", 50, 50, 1, false},
		{"wait 1", 50, 51, 1, true},
		{"now ahead of the time", 50, 49, 1, false},
		{"now far ahead of the time", 50, 0, 1, false},
		{"now 0", 0, 0, 1, false},
		{"as late as can be", 0, end, end, true},
		{"one tick ahead of that", 0, end - 1, end, false},
		{"the longest wait, later", 1, end, end, false},
		{"one tick less to wait", 1, end, end - 1, true},
		{"sent at the last time", end, end, 1, false},
		{"sent at the last time, now 0", end, 0, end, false},
		{"sent one tick ahead of it", end - 1, end, 1, true},
		{"sent one tick ahead of it, wait 2", end - 1, end, 2, false},
	}
	for _, c := range cases {
		t.Run(c.name, func(t *testing.T) {
			for below := 1; below <= 2; below++ {
				l := ledger(t, c.time, 4-below, 4)
				var lost, out []Packet
				if c.lost {
					lost = packets(c.time, 4-below)
				} else {
					out = packets(c.time, 4-below)
				}
				wantAck(t, l, ones(4), c.now, c.wait, packets(c.time, 4), lost)
				wantState(t, l, out, 4)
			}
		})
	}
}

func TestLostByTimeBelowTheLargestAlone(t *testing.T) {
	l := New()
	send(t, l, 10, 0, 1, 2)
	send(t, l, 20, 3, 4)
	send(t, l, 30, 5)
	wantAck(t, l, ones(3), end, 1, packets(20, 3), packets(10, 0, 1, 2)) // 4 and 5 are above it
	wantState(t, l, []Packet{packet(4, 20), packet(5, 30)}, 3)
	l = New()
	send(t, l, 10, 0)
	send(t, l, 20, 1)
	send(t, l, 30, 2)
	wantAck(t, l, ones(2), 35, 15, packets(30, 2), []Packet{packet(0, 10), packet(1, 20)})
	l = New()
	send(t, l, 10, 0)
	send(t, l, 20, 1)
	send(t, l, 30, 2)
	wantAck(t, l, ones(2), 34, 15, packets(30, 2), packets(10, 0))
	wantState(t, l, packets(20, 1), 2)
}

func TestAckLosesWithoutNews(t *testing.T) {
	// An ack that acks nothing loses what is due.
	l := ledger(t, 50, 0, 1, 2)
	wantAck(t, l, ones(2), 50, 10, packets(50, 2), nil)
	wantAck(t, l, ones(2), 59, 10, nil, nil)
	wantAck(t, l, ones(2), 60, 10, nil, packets(50, 0, 1))
	wantAck(t, l, ones(2), 61, 10, nil, nil)
}

func TestAckOfWrongSets(t *testing.T) {
	l := ledger(t, 50, upTo(600)[100:]...)
	for _, s := range wrongSets() {
		refusesAck(t, l, s, 50, 10, api.ErrArg)
		refusesAck(t, New(), s, 50, 10, api.ErrArg)
	}
	wantState(t, l, packets(50, upTo(600)[100:]...), -1)
}

func TestAckOfWrongTimes(t *testing.T) {
	l := ledger(t, 50, upTo(4)...)
	for _, now := range wrongTimes() {
		refusesAck(t, l, ones(4), now, 10, api.ErrArg)
	}
	for _, wait := range wrongWaits() {
		refusesAck(t, l, ones(4), 50, wait, api.ErrArg)
	}
	wantState(t, l, packets(50, upTo(4)...), -1)
	wantAck(t, l, ones(4), 0, 1, packets(50, 4), packets(50, 0, 1))
	wantAck(t, l, ones(4), end, end, nil, nil)
	wantAck(t, l, ones(4), end, end-50, nil, packets(50, 2, 3))
}

func TestWhichErrorOfAck(t *testing.T) {
	l := ledger(t, 50, upTo(4)...)
	refusesAck(t, l, set(0, 1, 2, 5), 50, 10, api.ErrArg) // touch, and too high
	refusesAck(t, l, ones(5), -1, 10, api.ErrArg)
	refusesAck(t, l, ones(5), end+1, 10, api.ErrArg)
	refusesAck(t, l, ones(5), 50, 0, api.ErrArg)
	refusesAck(t, l, ones(5), 50, end+1, api.ErrArg)
	refusesAck(t, l, ones(5), 50, 10, api.ErrOrder)
	refusesAck(t, l, nil, -1, 0, api.ErrArg)
}

func TestNothingWasSent(t *testing.T) {
	l := New()
	wantState(t, l, nil, -1)
	for _, s := range [][]api.Span{ones(0), ones(7), set(0, highest), ones(highest)} {
		refusesAck(t, l, s, 50, 10, api.ErrOrder)
	}
	want(t, "Lose", l.Lose(50, 10), nil)
	want(t, "Lose", l.Lose(end, 1), nil)
	wantNumber(t, "Due", l.Due(10), -1)
	want(t, "Drop", l.Drop(), nil)
	wantState(t, l, nil, -1)
	wantErrno(t, "Sent", l.Sent(0, 0, 1), api.OK)
	wantState(t, l, []Packet{{0, 0, 1}}, -1)
}

// P8.3

func TestLose(t *testing.T) {
	cases := []struct {
		name      string
		now, wait int
		lost, out []Packet
	}{
		{"just the first one", 110, 100, packets(10, 6), []Packet{packet(7, 20), packet(9, 30), packet(10, 40)}},
		{"a tick ahead of the second one", 119, 100, packets(10, 6), []Packet{packet(7, 20), packet(9, 30), packet(10, 40)}},
		{"just the second one", 120, 100, []Packet{packet(6, 10), packet(7, 20)}, []Packet{packet(9, 30), packet(10, 40)}},
		{"a tick ahead of the first one", 109, 100, nil, []Packet{packet(6, 10), packet(7, 20), packet(9, 30), packet(10, 40)}},
		{"none above the largest", end, 1, []Packet{packet(6, 10), packet(7, 20)}, []Packet{packet(9, 30), packet(10, 40)}},
		{"now 0", 0, 1, nil, []Packet{packet(6, 10), packet(7, 20), packet(9, 30), packet(10, 40)}},
		{"the longest wait", end, end, nil, []Packet{packet(6, 10), packet(7, 20), packet(9, 30), packet(10, 40)}},
		{"one that just is over", end, end - 10, packets(10, 6), []Packet{packet(7, 20), packet(9, 30), packet(10, 40)}},
	}
	for _, c := range cases {
		t.Run(c.name, func(t *testing.T) {
			l := New()
			send(t, l, 10, 6)
			send(t, l, 20, 7, 8)
			send(t, l, 30, 9)
			send(t, l, 40, 10)
			wantAck(t, l, ones(8), 40, 1000, packets(20, 8), nil)
			want(t, "Lose", l.Lose(c.now, c.wait), c.lost)
			wantState(t, l, c.out, 8)
			want(t, "Lose again", l.Lose(c.now, c.wait), nil)
			wantState(t, l, c.out, 8)
		})
	}
}

func TestLoseWithoutAck(t *testing.T) {
	l := ledger(t, 0, upTo(9)...)
	want(t, "Lose", l.Lose(end, 1), nil)
	wantState(t, l, packets(0, upTo(9)...), -1)
}

func TestLoseOfWrongTimes(t *testing.T) {
	l := ledger(t, 0, 0, 1, 2)
	wantAck(t, l, ones(2), 0, 1000, packets(0, 2), nil)
	for _, now := range wrongTimes() {
		want(t, "Lose", l.Lose(now, 1), nil)
	}
	for _, wait := range wrongWaits() {
		want(t, "Lose", l.Lose(end, wait), nil)
	}
	wantState(t, l, packets(0, 0, 1), 2)
	want(t, "Lose", l.Lose(end, end), packets(0, 0, 1))
}

func TestDue(t *testing.T) {
	l := New()
	send(t, l, 10, 6)
	send(t, l, 20, 7, 8)
	wantNumber(t, "Due, nothing was acked", l.Due(100), -1)
	wantAck(t, l, ones(6), 20, 1000, packets(10, 6), nil)
	wantNumber(t, "Due, none is below the largest", l.Due(100), -1)
	wantAck(t, l, ones(8), 20, 1000, packets(20, 8), nil)
	for range 2 {
		wantNumber(t, "Due, one is below it", l.Due(100), 120)
	}
	wantNumber(t, "Due of the wait 1", l.Due(1), 21)
	wantNumber(t, "Due of the longest wait", l.Due(end), end+20)
	for _, wait := range wrongWaits() {
		wantNumber(t, "Due of a wrong wait", l.Due(wait), -1)
	}
	want(t, "Lose a tick ahead", l.Lose(119, 100), nil)
	want(t, "Lose at just Due", l.Lose(120, 100), packets(20, 7))
	wantNumber(t, "Due, none is out", l.Due(100), -1)
}

func TestDueOfSeveral(t *testing.T) {
	l := New()
	send(t, l, 10, 0)
	send(t, l, 20, 1)
	send(t, l, 30, 2)
	send(t, l, 40, 3)
	wantAck(t, l, ones(2), 40, 1000, packets(30, 2), nil)
	wantNumber(t, "Due", l.Due(100), 110)
	want(t, "Lose a tick ahead", l.Lose(109, 100), nil)
	want(t, "Lose at just Due", l.Lose(110, 100), packets(10, 0))
	wantNumber(t, "Due", l.Due(100), 120)
	want(t, "Lose a tick ahead", l.Lose(119, 100), nil)
	want(t, "Lose at just Due", l.Lose(120, 100), packets(20, 1))
	wantNumber(t, "Due", l.Due(100), -1)
	wantState(t, l, packets(40, 3), 2)
}

func TestDueOfSeveralOfOneTime(t *testing.T) {
	l := ledger(t, 0, 0, 1, 2)
	wantAck(t, l, ones(2), 0, end, packets(0, 2), nil)
	wantNumber(t, "Due", l.Due(1), 1)
	wantNumber(t, "Due", l.Due(end), end)
	want(t, "Lose a tick ahead", l.Lose(end-1, end), nil)
	want(t, "Lose at just Due", l.Lose(end, end), packets(0, 0, 1))
}

func TestDueTurnsNothing(t *testing.T) {
	l := ledger(t, 50, 0, 1, 2, 3)
	wantAck(t, l, ones(2), 50, 10, packets(50, 2), nil)
	for _, wait := range []int{-1, 0, 1, 10, end, end + 1} {
		l.Due(wait)
	}
	wantState(t, l, packets(50, 0, 1, 3), 2)
}

func TestDrop(t *testing.T) {
	l := New()
	send(t, l, 10, 6)
	send(t, l, 20, 7, 8)
	send(t, l, 30, 40)
	wantAck(t, l, ones(7), 30, 1000, packets(20, 7), nil)
	want(t, "Drop", l.Drop(), []Packet{packet(6, 10), packet(8, 20), packet(40, 30)})
	wantState(t, l, nil, 7) // the largest stays
	want(t, "Drop again", l.Drop(), nil)
	want(t, "Lose", l.Lose(end, 1), nil)
	wantNumber(t, "Due", l.Due(1), -1)
	wantAck(t, l, set(0, 40), 30, 1, nil, nil) // and what was sent last
	wantState(t, l, nil, 40)
	send(t, l, 30, 41)
	want(t, "Drop", l.Drop(), packets(30, 41))
}

// P8.4

func TestLedgersOfNobody(t *testing.T) {
	ledgers := map[string]*Ledger{"nil": nil, "one that New did not give": {}, "another one": new(Ledger)}
	for name, l := range ledgers {
		t.Run(name, func(t *testing.T) {
			for range 2 {
				wantErrno(t, "Sent", l.Sent(0, 0, 1), api.ErrNil)
				wantErrno(t, "Sent", l.Sent(highest, end, 1200), api.ErrNil)
				refusesAck(t, l, ones(0), 0, 1, api.ErrNil)
				refusesAck(t, l, set(0, highest), end, end, api.ErrNil)
				want(t, "Lose", l.Lose(0, 1), nil)
				want(t, "Lose", l.Lose(-1, 0), nil)
				wantNumber(t, "Due", l.Due(1), -1)
				wantNumber(t, "Due", l.Due(0), -1)
				wantState(t, l, nil, -1)
				want(t, "Drop", l.Drop(), nil)
			}
			// There is nothing to hold an argument against.
			wantErrno(t, "Sent of a wrong number", l.Sent(-1, 0, 1), api.ErrNil)
			refusesAck(t, l, nil, -1, 0, api.ErrNil)
		})
	}
}

func TestLedgersShareNothing(t *testing.T) {
	a, b := ledger(t, 50, upTo(4)...), ledger(t, 60, 2, 3)
	wantAck(t, a, ones(4), 50, 10, packets(50, 4), packets(50, 0, 1))
	wantState(t, b, packets(60, 2, 3), -1)
	want(t, "Drop", b.Drop(), packets(60, 2, 3))
	wantState(t, a, packets(50, 2, 3), 4)
}

// R4

func TestSpansAreNotTurned(t *testing.T) {
	l := ledger(t, 50, upTo(9)...)
	s := make([]api.Span, 0, 8)
	s = append(s, set(0, 2, 5, 5, 9, 9)...)
	whole := slices.Clone(s[:cap(s)])
	wantAck(t, l, s, 50, 10, packets(50, 0, 1, 2, 5, 9), packets(50, 3, 4, 6))
	if !slices.Equal(s[:cap(s)], whole) {
		t.Errorf("the spans are %v, not %v", s[:cap(s)], whole)
	}
	clear(s) // they are the caller's, who may write into them
	wantState(t, l, packets(50, 7, 8), 9)
	refusesAck(t, l, set(0, 2, 5, 10), 50, 10, api.ErrOrder)
}

// spoil writes over what was answered, and over what lies behind it.
func spoil(l []Packet) {
	for i := range l[:cap(l)] {
		l[:cap(l)][i] = Packet{-7, -7, -7}
	}
}

func TestAnswersMayBeWrittenOver(t *testing.T) {
	l := ledger(t, 50, upTo(9)...)
	spoil(l.Out())
	wantState(t, l, packets(50, upTo(9)...), -1)
	first, second := l.Out(), l.Out()
	spoil(first)
	want(t, "Out", second, packets(50, upTo(9)...))
	acked, lost, _ := l.Ack(ones(5), 50, 10)
	spoil(acked)
	want(t, "lost", lost, packets(50, 0, 1, 2))
	spoil(lost)
	wantState(t, l, packets(50, 3, 4, 6, 7, 8, 9), 5)
	late := l.Lose(60, 10)
	want(t, "Lose", late, packets(50, 3, 4))
	spoil(late)
	wantState(t, l, packets(50, 6, 7, 8, 9), 5)
	dropped := l.Drop()
	want(t, "Drop", dropped, packets(50, 6, 7, 8, 9))
	spoil(dropped)
	wantState(t, l, nil, 5)
	send(t, l, 50, 10)
	wantState(t, l, packets(50, 10), 5)
}

// R7

func TestWhatIsRefusedTurnsNothing(t *testing.T) {
	l := ledger(t, 50, upTo(4)...)
	wantAck(t, l, ones(3), 50, 10, packets(50, 3), packets(50, 0))
	refuse := func() {
		l.Sent(5, 1000, 1201)
		l.Sent(highest+1, 1000, 1)
		l.Sent(1000, end+1, 1)
		l.Sent(4, 1000, 1)
		l.Sent(1000, 49, 1)
		l.Ack(ones(5), 1000, 1)
		l.Ack(ones(1, 2, 5), 1000, 1)
		l.Ack(set(1, 2, 3, 4), 1000, 1)
		l.Ack(nil, 1000, 1)
		l.Ack(ones(4), end+1, 1)
		l.Ack(ones(4), 1000, 0)
		l.Lose(end+1, 1)
		l.Lose(1000, 0)
	}
	refuse()
	wantState(t, l, packets(50, 1, 2, 4), 3)
	wantNumber(t, "Due", l.Due(10), 60)
	refuse()
	send(t, l, 50, 5) // the number and the time that it may have are what they were
	wantState(t, l, packets(50, 1, 2, 4, 5), 3)
	refusesAck(t, l, ones(6), 50, 10, api.ErrOrder)
	want(t, "Lose", l.Lose(60, 10), packets(50, 1, 2))
}
