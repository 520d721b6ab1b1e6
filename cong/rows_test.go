package cong

import (
	"math/rand"
	"testing"

	"turnbuckle/api"
)

// out is a datagram that is under way.
type out struct {
	bytes, sent int
}

// What happens to a datagram.
const (
	isSent = iota
	isAcked
	isLost
	isGone
)

// step is one of a row: what happened, to what, when, and the windows ahead of it and behind it.
type step struct {
	what     int
	of       out
	now      int
	was, is  State
	why      api.Errno
	underWay int // bytes, counted of the datagrams that are under way behind the step
}

// told is the window behind a step, as the words tell it.
func told(s State, what int, of out, now int) (State, api.Errno) {
	size, thresh, flight, since, part := s.Size, s.Thresh, s.Flight, s.Since, s.Part
	if what == isSent {
		if flight+of.bytes > size {
			return State{}, api.ErrFlow
		}
		flight += of.bytes
		return State{size, thresh, flight, since, part}, api.OK
	}
	if of.bytes > flight {
		return State{}, api.ErrFlow
	}
	flight -= of.bytes
	fits := since == -1 || of.sent >= since
	switch {
	case what == isAcked && fits && (thresh == 0 || size < thresh):
		size, part = size+of.bytes, 0
	case what == isAcked && fits:
		if part += of.bytes; part >= size {
			part, size = part-size, size+1200
		}
	case what == isLost && fits:
		if size /= 2; size < 2400 {
			size = 2400
		}
		thresh, part, since = size, 0, now+1
	}
	if size > 1<<30 {
		size = 1 << 30
	}
	if part > size-1 {
		part = size - 1
	}
	if since > 1<<40 {
		since = 1 << 40
	}
	return State{size, thresh, flight, since, part}, api.OK
}

func apply(s State, what int, of out, now int) (State, api.Errno) {
	switch what {
	case isSent:
		return Sent(s, of.bytes)
	case isAcked:
		return Acked(s, of.bytes, of.sent)
	case isLost:
		return Lost(s, of.bytes, of.sent, now)
	}
	return Gone(s, of.bytes)
}

// walker makes a row of steps of chance.
type walker struct {
	r     *rand.Rand
	s     State
	out   []out
	now   int
	ticks int   // how far the time goes on at most
	odds  []int // how often each thing happens
	whole bool  // whether each datagram has the most bytes
}

func newWalker(r *rand.Rand) *walker {
	all := [][]int{
		{50, 45, 4, 1},   // a good network
		{55, 30, 12, 3},  // a bad one
		{50, 20, 20, 10}, // a worse one
		{60, 40, 0, 0},   // one that loses nothing
		{60, 0, 40, 0},   // one that loses all
		{80, 16, 3, 1},   // one that is crowded
	}
	return &walker{r: r, s: New(), ticks: []int{0, 1, 3, 50, 2000}[r.Intn(5)], odds: all[r.Intn(len(all))], whole: r.Intn(2) == 0}
}

// pick is what happens next.
func (w *walker) pick() int {
	n := w.r.Intn(w.odds[0] + w.odds[1] + w.odds[2] + w.odds[3])
	what := 0
	for n >= w.odds[what] {
		n -= w.odds[what]
		what++
	}
	if len(w.out) == 0 {
		return isSent
	}
	return what
}

// next is the next step. What is refused turns nothing.
func (w *walker) next() step {
	w.now += w.r.Intn(w.ticks + 1)
	st := step{what: w.pick(), now: w.now, was: w.s}
	i := 0
	if st.what == isSent {
		st.of = out{1 + w.r.Intn(1200), w.now}
		if w.whole {
			st.of.bytes = 1200
		}
	} else {
		i = w.r.Intn(min(len(w.out), 1+w.r.Intn(8))) // the first ones sooner than others
		st.of = w.out[i]
	}
	st.is, st.why = apply(w.s, st.what, st.of, w.now)
	if st.why == api.OK {
		w.s = st.is
		if st.what == isSent {
			w.out = append(w.out, st.of)
		} else {
			w.out = append(w.out[:i:i], w.out[i+1:]...)
		}
	}
	for _, o := range w.out {
		st.underWay += o.bytes
	}
	return st
}

// overRows hands on each step of many long rows.
func overRows(t *testing.T, look func(row int, st step)) {
	t.Helper()
	r := rand.New(rand.NewSource(7))
	for row := range 60 {
		w := newWalker(r)
		for range 800 {
			look(row, w.next())
		}
	}
}

// anyState is a window of chance that may be, near the bounds of what it may be sooner than elsewhere.
func anyState(r *rand.Rand) State {
	size := []int{2400, 2400 + r.Intn(2500), 4800, 12000, 2400 + r.Intn(100000), top - r.Intn(1300), top}[r.Intn(7)]
	thresh := []int{0, 2400, max(2400, size-r.Intn(3)), size, min(top, size+r.Intn(2500)), 2400 + r.Intn(top-2399), top}[r.Intn(7)]
	flight := []int{0, r.Intn(1300), max(0, size-r.Intn(1300)), size, size + r.Intn(1300), full - r.Intn(3), full}[r.Intn(7)]
	since := []int{-1, 0, 1, r.Intn(1000), end - 1, end}[r.Intn(6)]
	part := []int{0, 1, r.Intn(size), max(0, size-1-r.Intn(1300)), size - 1}[r.Intn(5)]
	return State{size, thresh, flight, since, part}
}

// anyTime is a time of chance, near Since sooner than elsewhere.
func anyTime(r *rand.Rand, s State) int {
	return []int{0, 1, r.Intn(1000), max(0, s.Since-1), max(0, s.Since), min(end, s.Since+1), end - 1, end}[r.Intn(8)]
}

func TestStepsAreAsTold(t *testing.T) {
	overRows(t, func(row int, st step) {
		s, e := told(st.was, st.what, st.of, st.now)
		if st.is != s || st.why != e {
			t.Fatalf("row %d, %+v: not %v, %v", row, st, s, e)
		}
	})
}

func TestStepsOfAnyState(t *testing.T) {
	r := rand.New(rand.NewSource(71))
	for range 200000 {
		s := anyState(r)
		o := out{[]int{1, 2, 1199, 1200, 1 + r.Intn(1200)}[r.Intn(5)], anyTime(r, s)}
		what, now := r.Intn(4), anyTime(r, s)
		got, e := apply(s, what, o, now)
		if want, why := told(s, what, o, now); got != want || e != why {
			t.Fatalf("%d of %v to %v at %d is %v, %v, not %v, %v", what, s, o, now, got, e, want, why)
		}
		if e == api.OK && !Right(got) {
			t.Fatalf("%d of %v to %v at %d may not be: %v", what, s, o, now, got)
		}
	}
}

func TestEachWindowOfRowsMayBe(t *testing.T) {
	overRows(t, func(row int, st step) {
		if st.why != api.OK {
			if st.what != isSent || st.why != api.ErrFlow || st.is != (State{}) {
				t.Fatalf("row %d, %+v", row, st)
			}
			return
		}
		if !Right(st.is) || st.is.Flight != st.underWay {
			t.Fatalf("row %d, %+v", row, st)
		}
	})
}

// P7.5

func TestSizeIsNeverBelowTheLeast(t *testing.T) {
	lowest := 12000
	overRows(t, func(row int, st step) {
		if st.why != api.OK {
			return
		}
		if st.is.Size < 2400 {
			t.Fatalf("row %d, %+v", row, st)
		}
		lowest = min(lowest, st.is.Size)
	})
	if lowest != 2400 {
		t.Errorf("no row went down to the least: %d", lowest)
	}
}

func TestSizeStaysAtTheLeast(t *testing.T) {
	s := New()
	for now := range 100 {
		s, _ = Sent(s, 1200)
		var e api.Errno
		s, e = Lost(s, 1200, now, now)
		size := 2400
		if now < 2 {
			size = []int{6000, 3000}[now]
		}
		want(t, "Lost", s, e, of(size, size, 0, now+1, 0))
	}
}

// P7.6

func TestOfLossesAheadOfAFallOneFalls(t *testing.T) {
	row, fell := -1, -1
	falls, spared := 0, 0
	overRows(t, func(r int, st step) {
		if r != row {
			row, fell = r, -1
		}
		if st.what != isLost || st.why != api.OK {
			return
		}
		unturned := st.was
		unturned.Flight -= st.of.bytes
		if st.of.sent <= fell {
			spared++
			if st.is != unturned {
				t.Fatalf("row %d: it fell at %d, and again by %+v", row, fell, st)
			}
			return
		}
		falls++
		fell = st.now
		if st.is.Since != fell+1 || st.is.Thresh != st.is.Size || st.is.Part != 0 || st.is.Size != max(st.was.Size/2, 2400) {
			t.Fatalf("row %d: it did not fall by %+v", row, st)
		}
	})
	if falls < 100 || spared < 100 {
		t.Errorf("%d losses fell, %d did not: too few", falls, spared)
	}
}

func TestManyLossesFallOnce(t *testing.T) {
	s := New()
	for range 10 {
		s, _ = Sent(s, 1200)
	}
	for i := range 10 { // all were sent up to the time of the first loss
		var e api.Errno
		s, e = Lost(s, 1200, i, 9+i)
		want(t, "Lost", s, e, of(6000, 6000, 10800-1200*i, 10, 0))
	}
	s, _ = Sent(s, 1200)
	s, e := Lost(s, 1200, 10, 20) // the first one behind it
	want(t, "Lost", s, e, of(3000, 3000, 0, 21, 0))
}

// P7.7

func TestNothingIsSentAboveSize(t *testing.T) {
	refused, filled := 0, 0
	overRows(t, func(row int, st step) {
		if st.what != isSent {
			return
		}
		if st.why != api.OK {
			refused++
			if st.underWay+st.of.bytes <= st.was.Size {
				t.Fatalf("row %d: there was room, %+v", row, st)
			}
			return
		}
		if st.underWay > st.is.Size || st.is.Size != st.was.Size {
			t.Fatalf("row %d, %+v", row, st)
		}
		if st.underWay == st.is.Size {
			filled++
		}
	})
	if refused < 100 || filled < 10 {
		t.Errorf("%d sendings were refused, %d filled the window: too few", refused, filled)
	}
}

func TestAFullWindowTakesNoMore(t *testing.T) {
	s := New()
	for range 10 {
		s, _ = Sent(s, 1200)
	}
	want(t, "Sent", s, api.OK, of(12000, 0, 12000, -1, 0))
	for _, bytes := range []int{1, 2, 600, 1199, 1200} {
		got, e := Sent(s, bytes)
		refuses(t, "Sent", got, e, api.ErrFlow)
	}
	// Behind a fall more is under way than may be: nothing is sent till enough of it left.
	s, _ = Lost(s, 1200, 5, 9)
	for s.Flight > 6000 {
		got, e := Sent(s, 1)
		refuses(t, "Sent", got, e, api.ErrFlow)
		s, _ = Gone(s, 600)
	}
	got, e := Sent(s, 1)
	refuses(t, "Sent", got, e, api.ErrFlow)
	s, _ = Acked(s, 1, 5)
	wantSent(t, s, 1, of(6000, 6000, 6000, 10, 0))
}
