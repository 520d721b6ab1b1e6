package sent

import (
	"math/rand"
	"slices"
	"testing"

	"turnbuckle/api"
)

// What is asked of a ledger.
const (
	isSent = iota
	isAck
	isLose
	isDrop
)

// step is one of a row: what was asked, with what, and what was answered.
type step struct {
	what            int
	p               Packet     // of Sent
	s               []api.Span // of Ack
	now, wait       int
	acked, gone     []Packet // gone: what Ack and Lose lose, and what is dropped
	why             api.Errno
	wasLargest, due int      // ahead of the step; due for its wait
	out             []Packet // behind it
	largest         int
}

// model tells what a ledger answers, as the words tell it: all that was sent stands in a row, and is marked when it is settled.
type model struct {
	all     []Packet
	settled []bool
	largest int
}

func newModel() *model { return &model{largest: -1} }

func (m *model) take(holds func(Packet) bool) []Packet {
	var l []Packet
	for i, p := range m.all {
		if !m.settled[i] && holds(p) {
			l = append(l, p)
			m.settled[i] = true
		}
	}
	return l
}

func (m *model) out() []Packet {
	var l []Packet
	for i, p := range m.all {
		if !m.settled[i] {
			l = append(l, p)
		}
	}
	return l
}

func (m *model) sent(p Packet) api.Errno {
	if p.N < 0 || p.N > highest || p.Time < 0 || p.Time > end || p.Size < 1 || p.Size > 1200 {
		return api.ErrArg
	}
	for _, o := range m.all {
		if p.N <= o.N || p.Time < o.Time {
			return api.ErrOrder
		}
	}
	if len(m.out()) >= 512 {
		return api.ErrMany
	}
	m.all = append(m.all, p)
	m.settled = append(m.settled, false)
	return api.OK
}

func (m *model) lose(now, wait int) []Packet {
	return m.take(func(p Packet) bool {
		return p.N < m.largest && (p.N <= m.largest-3 || p.Time <= now-wait)
	})
}

// ack is of a set that may be, with a now and a wait that may be.
func (m *model) ack(s []api.Span, now, wait int) ([]Packet, []Packet, api.Errno) {
	top := s[len(s)-1].To
	if len(m.all) == 0 || top > m.all[len(m.all)-1].N {
		return nil, nil, api.ErrOrder
	}
	acked := m.take(func(p Packet) bool {
		return slices.ContainsFunc(s, func(x api.Span) bool { return x.From <= p.N && p.N <= x.To })
	})
	if top > m.largest {
		m.largest = top
	}
	return acked, m.lose(now, wait), api.OK
}

func (m *model) due(wait int) int {
	for _, p := range m.out() { // the first one was sent first
		if p.N < m.largest {
			return p.Time + wait
		}
	}
	return -1
}

// walker makes a row of steps of chance.
type walker struct {
	r       *rand.Rand
	l       *Ledger
	m       *model
	now, n  int
	ticks   int   // how far the time goes on at most
	numbers int   // how many numbers are left out at most
	odds    []int // how often each thing is asked
}

func newWalker(r *rand.Rand) *walker {
	all := [][]int{
		{60, 30, 9, 1},   // a good network
		{50, 10, 39, 1},  // few acks
		{40, 50, 10, 0},  // many acks
		{70, 20, 5, 5},   // many drops
		{400, 1, 1, 0},   // a crowded one
		{30, 30, 30, 10}, // a mixed one
	}
	w := &walker{r: r, l: New(), m: newModel(), ticks: []int{0, 1, 3, 50, 2000}[r.Intn(5)], numbers: []int{0, 0, 1, 4, 1000}[r.Intn(5)], odds: all[r.Intn(len(all))]}
	if r.Intn(8) == 0 { // up to the last numbers and times
		w.n, w.now = highest-800, end-800
	}
	return w
}

// pick is what is asked next.
func (w *walker) pick() int {
	n := w.r.Intn(w.odds[0] + w.odds[1] + w.odds[2] + w.odds[3])
	what := 0
	for n >= w.odds[what] {
		n -= w.odds[what]
		what++
	}
	return what
}

// anySet is a set of chance that may be, about what was sent last.
func (w *walker) anySet() []api.Span {
	n := max(0, w.n-w.r.Intn(40*(1+w.numbers)))
	if w.r.Intn(8) == 0 {
		n = w.r.Intn(w.n + 1)
	}
	var s []api.Span
	for range 1 + w.r.Intn(6) {
		to := n + w.r.Intn(1+w.r.Intn(4)*(1+w.numbers))
		if to > highest {
			break
		}
		s = append(s, api.Span{From: n, To: to})
		n = to + 2 + w.r.Intn(1+w.r.Intn(8)*(1+w.numbers))
	}
	if len(s) == 0 {
		return ones(min(n, highest))
	}
	if w.r.Intn(10) != 0 { // most times no number above the last one
		for len(s) > 1 && s[len(s)-1].To >= w.n {
			s = s[:len(s)-1]
		}
	}
	return s
}

// anyWait is a wait of chance that may be.
func (w *walker) anyWait() int {
	return []int{1, 1 + w.r.Intn(10), 1 + w.r.Intn(20*(1+w.ticks)), end - w.r.Intn(3), end}[w.r.Intn(5)]
}

// sends is the next sending: now and then it is refused.
func (w *walker) sends() Packet {
	p := Packet{w.n + w.r.Intn(w.numbers+1), w.now, 1 + w.r.Intn(1200)}
	switch w.r.Intn(20) {
	case 0:
		p.N -= w.r.Intn(5)
	case 1:
		p.Time -= w.r.Intn(5)
	case 2:
		p.Size = w.r.Intn(3) * 601
	}
	return p
}

// next is the next step, and what the words say is answered to it.
func (w *walker) next() (step, step) {
	w.now = min(end, w.now+w.r.Intn(w.ticks+1))
	st := step{what: w.pick(), now: w.now, wait: w.anyWait(), wasLargest: w.l.Largest()}
	st.due = w.l.Due(st.wait)
	if w.r.Intn(10) == 0 { // ahead of what was sent last
		st.now = w.r.Intn(w.now + 1)
	}
	if w.r.Intn(10) == 0 && st.due >= 0 { // just when something is due, or a tick off
		st.now = max(0, min(end, st.due-1+w.r.Intn(3)))
	}
	told := st
	told.due = w.m.due(st.wait)
	switch st.what {
	case isSent:
		st.p = w.sends()
		told.p = st.p
		st.why = w.l.Sent(st.p.N, st.p.Time, st.p.Size)
		told.why = w.m.sent(st.p)
		if st.why == api.OK {
			w.n = st.p.N + 1
		}
	case isAck:
		st.s = w.anySet()
		told.s = st.s
		st.acked, st.gone, st.why = w.l.Ack(st.s, st.now, st.wait)
		told.acked, told.gone, told.why = w.m.ack(st.s, st.now, st.wait)
	case isLose:
		st.gone = w.l.Lose(st.now, st.wait)
		told.gone = w.m.lose(st.now, st.wait)
	case isDrop:
		st.gone = w.l.Drop()
		told.gone = w.m.take(func(Packet) bool { return true })
	}
	st.out, st.largest = w.l.Out(), w.l.Largest()
	told.out, told.largest = w.m.out(), w.m.largest
	return st, told
}

// overRows hands on each step of many long rows, with what the words say of it.
func overRows(t *testing.T, look func(row int, st, told step)) {
	t.Helper()
	r := rand.New(rand.NewSource(8))
	for row := range 60 {
		w := newWalker(r)
		for range 1000 {
			st, told := w.next()
			look(row, st, told)
		}
	}
}

// alike tells whether two steps are.
func alike(a, b step) bool {
	return slices.Equal(a.acked, b.acked) && slices.Equal(a.gone, b.gone) && a.why == b.why &&
		a.due == b.due && slices.Equal(a.out, b.out) && a.largest == b.largest
}

func TestStepsAreAsTold(t *testing.T) {
	whys := map[api.Errno]int{}
	acked, lost, dropped, most := 0, 0, 0, 0
	overRows(t, func(row int, st, told step) {
		if !alike(st, told) {
			t.Fatalf("row %d: %+v, not %+v", row, st, told)
		}
		whys[st.why]++
		acked += len(st.acked)
		if st.what == isDrop {
			dropped += len(st.gone)
		} else {
			lost += len(st.gone)
		}
		most = max(most, len(st.out))
	})
	for _, why := range []api.Errno{api.OK, api.ErrArg, api.ErrOrder, api.ErrMany} {
		if whys[why] < 100 {
			t.Errorf("%v was answered %d times: too few", why, whys[why])
		}
	}
	if acked < 1000 || lost < 1000 || dropped < 1000 || most != 512 {
		t.Errorf("%d were acked, %d lost, %d dropped, %d were out: too few", acked, lost, dropped, most)
	}
}

// P8.5

func TestEachIsSettledOnce(t *testing.T) {
	row := -1
	var open map[int]Packet // those that were sent, and not settled yet
	overRows(t, func(r int, st, _ step) {
		if r != row {
			row, open = r, map[int]Packet{}
		}
		if st.what == isSent && st.why == api.OK {
			open[st.p.N] = st.p
		}
		for _, p := range slices.Concat(st.acked, st.gone) {
			if open[p.N] != p {
				t.Fatalf("row %d: %v was not out, or was another one: %+v", row, p, st)
			}
			delete(open, p.N)
		}
		if len(open) != len(st.out) {
			t.Fatalf("row %d: %d were not settled, %d are out: %+v", row, len(open), len(st.out), st)
		}
		for _, p := range st.out {
			if open[p.N] != p {
				t.Fatalf("row %d: %v is out, which was settled: %+v", row, p, st)
			}
		}
	})
}

func TestAnswersAreInOrder(t *testing.T) {
	rise := func(l []Packet) bool {
		return slices.IsSortedFunc(l, func(a, b Packet) int { return a.N - b.N })
	}
	overRows(t, func(row int, st, _ step) {
		if !rise(st.acked) || !rise(st.gone) || !rise(st.out) {
			t.Fatalf("row %d: %+v", row, st)
		}
	})
}

// P8.6

func TestWhatIsLostIsBelowTheLargest(t *testing.T) {
	lost, near := 0, 0
	overRows(t, func(row int, st, _ step) {
		if st.largest < st.wasLargest {
			t.Fatalf("row %d: the largest fell: %+v", row, st)
		}
		if st.what == isDrop {
			return
		}
		for _, p := range st.gone {
			lost++
			if p.N >= st.largest {
				t.Fatalf("row %d: %v is lost: %+v", row, p, st)
			}
		}
		if st.what != isAck || st.why != api.OK {
			return
		}
		for _, p := range st.out {
			if p.N <= st.largest-3 {
				t.Fatalf("row %d: %v is out: %+v", row, p, st)
			}
			if p.N < st.largest {
				near++
			}
		}
	})
	if lost < 1000 || near < 1000 {
		t.Errorf("%d were lost, %d were out below the largest: too few", lost, near)
	}
}

// P8.7

func TestAskedAgainAtDue(t *testing.T) {
	r := rand.New(rand.NewSource(87))
	lost := 0
	for range 60 {
		w := newWalker(r)
		for range 1000 {
			w.next()
			wait := w.anyWait()
			due := w.l.Due(wait)
			if due < 0 || due > end {
				continue
			}
			// A tick ahead of it none is lost: behind an ack, a datagram is lost by its time alone.
			if early := w.l.Lose(max(0, due-1), wait); len(early) != 0 {
				t.Fatalf("%v are lost ahead of %d, with the wait %d", early, due, wait)
			}
			late := w.l.Lose(due, wait)
			if len(late) == 0 {
				t.Fatalf("none is lost at %d, with the wait %d", due, wait)
			}
			if again := w.l.Due(wait); again != -1 && again <= due {
				t.Fatalf("due is %d behind a loss at %d, with the wait %d", again, due, wait)
			}
			w.m.lose(due, wait)
			lost += len(late)
		}
	}
	if lost < 500 {
		t.Errorf("%d were lost: too few", lost)
	}
}

func TestTheSameCallsHaveTheSameAnswers(t *testing.T) {
	// Of maps that are gone over in other orders nothing is to be seen.
	for seed := range int64(10) {
		a, b := newWalker(rand.New(rand.NewSource(seed))), newWalker(rand.New(rand.NewSource(seed)))
		for range 500 {
			x, _ := a.next()
			y, _ := b.next()
			if !alike(x, y) {
				t.Fatalf("seed %d: %+v and %+v", seed, x, y)
			}
		}
	}
}
