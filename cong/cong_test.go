package cong

import (
	"math"
	"testing"

	"turnbuckle/api"
)

const (
	// top is the most that a Size or a Thresh may be.
	top = 1 << 30
	// full is the most that a Flight may be.
	full = 1 << 40
	// end is the last time.
	end = 1 << 40
)

// of is a window.
func of(size, thresh, flight, since, part int) State {
	return State{Size: size, Thresh: thresh, Flight: flight, Since: since, Part: part}
}

// rightStates are windows that may be.
func rightStates() []State {
	return []State{
		New(),
		of(12000, 0, 1200, -1, 0),
		of(12000, 0, 12000, -1, 0),
		of(12000, 0, 12001, -1, 0),
		of(12000, 0, full, -1, 0),
		of(12000, 0, 1200, 0, 0),
		of(12000, 0, 1200, end, 0),
		of(12000, 0, 1200, 100, 11999),
		of(12000, 2400, 1200, 100, 0),
		of(12000, 2400, 1200, 100, 11999),
		of(12000, 11999, 1200, 100, 500),
		of(12000, 12000, 1200, 100, 500),
		of(12000, 12001, 1200, 100, 500),
		of(12000, top, 1200, 100, 500),
		of(2400, 0, 0, -1, 0),
		of(2400, 2400, 2400, 0, 2399),
		of(2400, 2401, 2401, 7, 1),
		of(2400, top, full, end, 2399),
		of(2401, 2400, 1, 7, 2400),
		of(top, 0, 0, -1, 0),
		of(top, 2400, top, 0, top-1),
		of(top, top, top+1, 7, 1),
		of(top, top, full, end, top-1),
		of(top-1, top, 1200, 7, top-2),
	}
}

// extremes are numbers that no field may be.
func extremes() []int {
	return []int{-2, -3, -1200, -2400, -full, math.MinInt, full + 1, 2 * full, math.MaxInt - 1, math.MaxInt}
}

// wrongStates are windows that may not be.
func wrongStates() []State {
	l := []State{
		{},
		{Since: -1},
		{Flight: 1200},
		of(2399, 0, 0, -1, 0),
		of(1200, 0, 0, -1, 0),
		of(0, 0, 0, -1, 0),
		of(-12000, 0, 0, -1, 0),
		of(top+1, 0, 0, -1, 0),
		of(top+1200, top, 0, -1, 0),
		of(full, top, 0, -1, 0),
		of(12000, -1, 0, -1, 0),
		of(12000, 1, 0, -1, 0),
		of(12000, 1200, 0, -1, 0),
		of(12000, 2399, 0, -1, 0),
		of(12000, top+1, 0, -1, 0),
		of(12000, 0, -1, -1, 0),
		of(12000, 0, full+1, -1, 0),
		of(12000, 0, 1200, -2, 0),
		of(12000, 0, 1200, end+1, 0),
		of(12000, 0, 1200, -1, -1),
		of(12000, 0, 1200, -1, 12000),
		of(12000, 0, 1200, -1, 12001),
		of(12000, 2400, 1200, 7, 12000),
		of(2400, 0, 1200, -1, 2400),
		of(2400, 0, 1200, -1, top),
		of(top, 0, 1200, -1, top),
	}
	for _, n := range extremes() {
		l = append(l,
			of(n, 0, 1200, -1, 0),
			of(12000, n, 1200, -1, 0),
			of(12000, 0, n, -1, 0),
			of(12000, 0, 1200, n, 0),
			of(12000, 0, 1200, -1, n),
			of(n, n, n, n, n),
			of(n, 0, 1200, -1, n-1),
		)
	}
	return l
}

// wrongBytes are no datagram's.
func wrongBytes() []int {
	return []int{0, -1, -1200, math.MinInt, 1201, 1202, 2400, top, math.MaxInt}
}

// wrongTimes are no times.
func wrongTimes() []int {
	return []int{-1, -2, -end, math.MinInt, end + 1, end + 2, 2 * end, math.MaxInt}
}

// someTimes are times.
func someTimes() []int {
	return []int{0, 1, 6, 7, 8, 99, 100, 101, end - 1, end}
}

func want(t *testing.T, name string, got State, e api.Errno, s State) {
	t.Helper()
	if got != s || e != api.OK {
		t.Errorf("%s is %v, %v, not %v", name, got, e, s)
	}
}

func refuses(t *testing.T, name string, got State, e, why api.Errno) {
	t.Helper()
	if got != (State{}) || e != why {
		t.Errorf("%s is %v, %v, not %v", name, got, e, why)
	}
}

func wantSent(t *testing.T, s State, bytes int, w State) {
	t.Helper()
	for range 2 { // asked twice, it answers the same
		got, e := Sent(s, bytes)
		want(t, "Sent", got, e, w)
	}
}

func wantAcked(t *testing.T, s State, bytes, sent int, w State) {
	t.Helper()
	for range 2 {
		got, e := Acked(s, bytes, sent)
		want(t, "Acked", got, e, w)
	}
}

func wantLost(t *testing.T, s State, bytes, sent, now int, w State) {
	t.Helper()
	for range 2 {
		got, e := Lost(s, bytes, sent, now)
		want(t, "Lost", got, e, w)
	}
}

func wantGone(t *testing.T, s State, bytes int, w State) {
	t.Helper()
	for range 2 {
		got, e := Gone(s, bytes)
		want(t, "Gone", got, e, w)
	}
}

// refusesAll asks all calls the same, and wants the same error of each.
func refusesAll(t *testing.T, s State, bytes, sent, now int, why api.Errno) {
	t.Helper()
	got, e := Sent(s, bytes)
	refuses(t, "Sent", got, e, why)
	refusesLeaving(t, s, bytes, sent, now, why)
}

// refusesLeaving is refusesAll of the calls by which something is under way no more.
func refusesLeaving(t *testing.T, s State, bytes, sent, now int, why api.Errno) {
	t.Helper()
	got, e := Acked(s, bytes, sent)
	refuses(t, "Acked", got, e, why)
	got, e = Lost(s, bytes, sent, now)
	refuses(t, "Lost", got, e, why)
	got, e = Gone(s, bytes)
	refuses(t, "Gone", got, e, why)
}

// P7.1

func TestNew(t *testing.T) {
	if s := New(); s != of(12000, 0, 0, -1, 0) {
		t.Errorf("New is %v", s)
	}
	s := New()
	s.Size, s.Since = 0, 7
	if again := New(); again != of(12000, 0, 0, -1, 0) {
		t.Errorf("New is %v, when the one ahead of it was written into", again)
	}
}

func TestRight(t *testing.T) {
	for _, s := range rightStates() {
		if !Right(s) {
			t.Errorf("Right(%v) is false", s)
		}
	}
	for _, s := range wrongStates() {
		if Right(s) {
			t.Errorf("Right(%v) is true", s)
		}
	}
}

func TestRoom(t *testing.T) {
	cases := []struct {
		s    State
		want int
	}{
		{New(), 12000},
		{of(12000, 0, 1, -1, 0), 11999},
		{of(12000, 0, 1200, -1, 0), 10800},
		{of(12000, 0, 11999, -1, 0), 1},
		{of(12000, 0, 12000, -1, 0), 0},
		{of(12000, 0, 12001, -1, 0), 0},
		{of(12000, 0, full, -1, 0), 0},
		{of(12000, 2400, 3000, 7, 11999), 9000}, // neither Thresh nor Part counts
		{of(2400, top, 0, end, 2399), 2400},
		{of(top, top, 0, 0, 0), top},
		{of(top, top, 1, 0, 0), top - 1},
		{of(top, 0, top, 0, 0), 0},
	}
	for _, c := range cases {
		if got := Room(c.s); got != c.want {
			t.Errorf("Room(%v) is %d, not %d", c.s, got, c.want)
		}
	}
	for _, s := range wrongStates() {
		if got := Room(s); got != 0 {
			t.Errorf("Room(%v) is %d", s, got)
		}
	}
}

// P7.2

func TestSent(t *testing.T) {
	cases := []struct {
		s     State
		bytes int
		want  State
	}{
		{New(), 1, of(12000, 0, 1, -1, 0)},
		{New(), 1200, of(12000, 0, 1200, -1, 0)},
		{of(12000, 0, 10800, -1, 0), 1200, of(12000, 0, 12000, -1, 0)}, // just Room
		{of(12000, 0, 10800, -1, 0), 1199, of(12000, 0, 11999, -1, 0)},
		{of(12000, 0, 11999, -1, 0), 1, of(12000, 0, 12000, -1, 0)},
		{of(12000, 2400, 3000, 7, 11999), 500, of(12000, 2400, 3500, 7, 11999)}, // all else stays
		{of(2400, top, 1200, end, 2399), 1200, of(2400, top, 2400, end, 2399)},
		{of(top, top, top-1200, 0, 1), 1200, of(top, top, top, 0, 1)},
	}
	for _, c := range cases {
		wantSent(t, c.s, c.bytes, c.want)
	}
}

func TestSentWithoutRoom(t *testing.T) {
	cases := []struct {
		s     State
		bytes int
	}{
		{of(12000, 0, 10801, -1, 0), 1200}, // one more than Room
		{of(12000, 0, 11999, -1, 0), 2},
		{of(12000, 0, 12000, -1, 0), 1},
		{of(12000, 0, 12000, -1, 0), 1200},
		{of(12000, 0, 12001, -1, 0), 1}, // more under way than may be
		{of(12000, 0, full, -1, 0), 1},
		{of(12000, 0, full, -1, 0), 1200},
		{of(2400, top, 1201, 7, 0), 1200},
		{of(top, 0, top-1199, -1, 0), 1200},
		{of(top, 0, top, -1, 0), 1},
	}
	for _, c := range cases {
		got, e := Sent(c.s, c.bytes)
		refuses(t, "Sent", got, e, api.ErrFlow)
	}
}

func TestGone(t *testing.T) {
	cases := []struct {
		s     State
		bytes int
		want  State
	}{
		{of(12000, 0, 1, -1, 0), 1, New()}, // just Flight
		{of(12000, 0, 1200, -1, 0), 1200, New()},
		{of(12000, 0, 1200, -1, 0), 1, of(12000, 0, 1199, -1, 0)},
		{of(12000, 0, 12001, -1, 0), 1200, of(12000, 0, 10801, -1, 0)},
		{of(12000, 2400, 3000, 7, 11999), 500, of(12000, 2400, 2500, 7, 11999)}, // all else stays
		{of(12000, 24000, 3000, 0, 9), 500, of(12000, 24000, 2500, 0, 9)},
		{of(2400, top, full, end, 2399), 1200, of(2400, top, full-1200, end, 2399)},
	}
	for _, c := range cases {
		wantGone(t, c.s, c.bytes, c.want)
	}
}

// P7.3

func TestAckedBelowThresh(t *testing.T) {
	cases := []struct {
		name        string
		s           State
		bytes, sent int
		want        State
	}{
		{"no Thresh, no fall", of(12000, 0, 1200, -1, 0), 1200, 0, of(13200, 0, 0, -1, 0)},
		{"no Thresh, no fall, one byte", of(12000, 0, 1200, -1, 0), 1, end, of(12001, 0, 1199, -1, 0)},
		{"no Thresh, a Since", of(12000, 0, 1200, 7, 0), 1200, 7, of(13200, 0, 0, 7, 0)},
		{"no Thresh, a Part", of(12000, 0, 1200, 7, 11999), 1200, 7, of(13200, 0, 0, 7, 0)},
		{"below Thresh", of(12000, 24000, 1200, 7, 0), 1200, 7, of(13200, 24000, 0, 7, 0)},
		{"below Thresh, a Part", of(12000, 24000, 1200, 7, 500), 700, 7, of(12700, 24000, 500, 7, 0)},
		{"below Thresh, no fall", of(12000, 24000, 1200, -1, 0), 1200, 0, of(13200, 24000, 0, -1, 0)},
		{"one below Thresh", of(12000, 12001, 1200, 7, 0), 1, 7, of(12001, 12001, 1199, 7, 0)},
		{"to Thresh", of(12000, 13200, 1200, 7, 0), 1200, 7, of(13200, 13200, 0, 7, 0)},
		{"to one below Thresh", of(12000, 13200, 1200, 7, 0), 1199, 7, of(13199, 13200, 1, 7, 0)},
		{"over Thresh", of(12000, 13199, 1200, 7, 0), 1200, 7, of(13200, 13199, 0, 7, 0)},
		{"far over Thresh", of(12000, 12001, 1200, 7, 3), 1200, 7, of(13200, 12001, 0, 7, 0)},
		{"the least Size", of(2400, 2401, 2400, 7, 2399), 1200, 8, of(3600, 2401, 1200, 7, 0)},
		{"all that may be under way", of(12000, 0, full, -1, 0), 1200, 0, of(13200, 0, full-1200, -1, 0)},
		{"to just the most", of(top-1200, 0, 1200, -1, 0), 1200, 0, of(top, 0, 0, -1, 0)},
		{"over the most", of(top-1199, 0, 1200, -1, 0), 1200, 0, of(top, 0, 0, -1, 0)},
		{"to one below the most", of(top-1200, 0, 1200, -1, 0), 1199, 0, of(top-1, 0, 1, -1, 0)},
		{"the most", of(top, 0, 1200, -1, 0), 1200, 0, of(top, 0, 0, -1, 0)},
		{"the most, a Part", of(top, 0, 1200, -1, top-1), 1, 0, of(top, 0, 1199, -1, 0)},
		{"over the most, which is Thresh", of(top-1, top, 1200, 7, 5), 1200, 7, of(top, top, 0, 7, 0)},
	}
	for _, c := range cases {
		t.Run(c.name, func(t *testing.T) { wantAcked(t, c.s, c.bytes, c.sent, c.want) })
	}
}

func TestAckedFromThreshOn(t *testing.T) {
	cases := []struct {
		name        string
		s           State
		bytes, sent int
		want        State
	}{
		{"at Thresh", of(12000, 12000, 1200, 7, 0), 1200, 7, of(12000, 12000, 0, 7, 1200)},
		{"at Thresh, one byte", of(12000, 12000, 1200, 7, 500), 1, 7, of(12000, 12000, 1199, 7, 501)},
		{"above Thresh", of(12000, 11999, 1200, 7, 500), 700, 7, of(12000, 11999, 500, 7, 1200)},
		{"far above Thresh", of(12000, 2400, 1200, 7, 500), 700, 7, of(12000, 2400, 500, 7, 1200)},
		{"no fall", of(12000, 2400, 1200, -1, 500), 700, 0, of(12000, 2400, 500, -1, 1200)},
		{"to one less than Size", of(12000, 6000, 1200, 7, 10800), 1199, 7, of(12000, 6000, 1, 7, 11999)},
		{"to just Size", of(12000, 6000, 1200, 7, 10800), 1200, 7, of(13200, 6000, 0, 7, 0)},
		{"to just Size, one byte", of(12000, 6000, 1200, 7, 11999), 1, 7, of(13200, 6000, 1199, 7, 0)},
		{"over Size", of(12000, 6000, 1200, 7, 10801), 1200, 7, of(13200, 6000, 0, 7, 1)},
		{"far over Size", of(12000, 6000, 1200, 7, 11999), 1200, 7, of(13200, 6000, 0, 7, 1199)},
		{"the least Size", of(2400, 2400, 1200, 7, 2399), 1200, 7, of(3600, 2400, 0, 7, 1199)},
		{"the least Size, to just it", of(2400, 2400, 1200, 7, 1200), 1200, 7, of(3600, 2400, 0, 7, 0)},
		{"to just the most", of(top-1200, 2400, 1200, 7, top-1201), 1, 7, of(top, 2400, 1199, 7, 0)},
		{"over the most", of(top-1199, 2400, 1200, 7, top-1200), 2, 7, of(top, 2400, 1198, 7, 1)},
		{"to one below the most", of(top-1201, 2400, 1200, 7, top-1202), 1, 7, of(top-1, 2400, 1199, 7, 0)},
		{"the most", of(top, top, 1200, 7, 0), 1200, 7, of(top, top, 0, 7, 1200)},
		{"the most, to just it", of(top, top, 1200, 7, top-1200), 1200, 7, of(top, top, 0, 7, 0)},
		{"the most, over it", of(top, 2400, 1200, 7, top-1), 1200, 7, of(top, 2400, 0, 7, 1199)},
	}
	for _, c := range cases {
		t.Run(c.name, func(t *testing.T) { wantAcked(t, c.s, c.bytes, c.sent, c.want) })
	}
}

func TestAckedSentAboutSince(t *testing.T) {
	below, above := of(12000, 24000, 1200, 100, 30), of(12000, 6000, 1200, 100, 30)
	for _, sent := range []int{0, 1, 98, 99} { // ahead of it: the window does not grow
		wantAcked(t, below, 1200, sent, of(12000, 24000, 0, 100, 30))
		wantAcked(t, above, 1200, sent, of(12000, 6000, 0, 100, 30))
	}
	for _, sent := range []int{100, 101, 102, end} {
		wantAcked(t, below, 1200, sent, of(13200, 24000, 0, 100, 0))
		wantAcked(t, above, 1200, sent, of(12000, 6000, 0, 100, 1230))
	}
	for _, sent := range someTimes() { // no fall yet, or a fall ahead of all times
		wantAcked(t, of(12000, 0, 1200, -1, 30), 1200, sent, of(13200, 0, 0, -1, 0))
		wantAcked(t, of(12000, 6000, 1200, -1, 30), 1200, sent, of(12000, 6000, 0, -1, 1230))
		wantAcked(t, of(12000, 0, 1200, 0, 30), 1200, sent, of(13200, 0, 0, 0, 0))
	}
	wantAcked(t, of(12000, 0, 1200, end, 30), 1200, end-1, of(12000, 0, 0, end, 30))
	wantAcked(t, of(12000, 0, 1200, end, 30), 1200, end, of(13200, 0, 0, end, 0))
	wantAcked(t, of(12000, 6000, 1200, 100, 11999), 1200, 99, of(12000, 6000, 0, 100, 11999))
}

// P7.4

func TestLost(t *testing.T) {
	cases := []struct {
		name             string
		s                State
		bytes, sent, now int
		want             State
	}{
		{"no fall yet", of(12000, 0, 1200, -1, 0), 1200, 0, 50, of(6000, 6000, 0, 51, 0)},
		{"no fall yet, now 0", of(12000, 0, 1200, -1, 0), 1200, 0, 0, of(6000, 6000, 0, 1, 0)},
		{"no fall yet, now the last time", of(12000, 0, 1200, -1, 0), 1200, 0, end, of(6000, 6000, 0, end, 0)},
		{"now one ahead of the last time", of(12000, 0, 1200, -1, 0), 1200, 0, end - 1, of(6000, 6000, 0, end, 0)},
		{"now two ahead of the last time", of(12000, 0, 1200, -1, 0), 1200, 0, end - 2, of(6000, 6000, 0, end-1, 0)},
		{"one byte", of(12000, 0, 1200, -1, 0), 1, 7, 50, of(6000, 6000, 1199, 51, 0)},
		{"a Part", of(12000, 6000, 1200, 7, 11999), 1200, 7, 50, of(6000, 6000, 0, 51, 0)},
		{"a Thresh above Size", of(12000, 24000, 1200, 7, 5), 1200, 7, 50, of(6000, 6000, 0, 51, 0)},
		{"a Thresh that is Size", of(12000, 12000, 1200, 7, 5), 1200, 7, 50, of(6000, 6000, 0, 51, 0)},
		{"a Thresh below half of Size", of(12000, 2400, 1200, 7, 5), 1200, 7, 50, of(6000, 6000, 0, 51, 0)},
		{"half of Size is just the least", of(4800, 0, 1200, -1, 0), 1200, 7, 50, of(2400, 2400, 0, 51, 0)},
		{"half of Size is above the least", of(4802, 0, 1200, -1, 0), 1200, 7, 50, of(2401, 2401, 0, 51, 0)},
		{"half of Size is below the least", of(4798, 0, 1200, -1, 0), 1200, 7, 50, of(2400, 2400, 0, 51, 0)},
		{"half of an odd Size is below the least", of(4799, 0, 1200, -1, 0), 1200, 7, 50, of(2400, 2400, 0, 51, 0)},
		{"half of an odd Size", of(4803, 0, 1200, -1, 0), 1200, 7, 50, of(2401, 2401, 0, 51, 0)},
		{"half of another odd Size", of(13001, 0, 1200, -1, 0), 1200, 7, 50, of(6500, 6500, 0, 51, 0)},
		{"the least Size", of(2400, 0, 1200, -1, 2399), 1200, 7, 50, of(2400, 2400, 0, 51, 0)},
		{"the least Size, again", of(2400, 2400, 1200, 7, 2399), 1200, 7, 50, of(2400, 2400, 0, 51, 0)},
		{"the greatest Size", of(top, top, 1200, 7, top-1), 1200, 7, 50, of(top/2, top/2, 0, 51, 0)},
		{"one less than the greatest Size", of(top-1, 0, 1200, 7, 0), 1200, 7, 50, of(top/2-1, top/2-1, 0, 51, 0)},
		{"all that may be under way", of(12000, 0, full, -1, 0), 1200, 7, 50, of(6000, 6000, full-1200, 51, 0)},
		{"sent at the time at which it is lost", of(12000, 0, 1200, -1, 0), 1200, 50, 50, of(6000, 6000, 0, 51, 0)},
		{"sent behind the time at which it is lost", of(12000, 0, 1200, 60, 0), 1200, 70, 50, of(6000, 6000, 0, 51, 0)},
	}
	for _, c := range cases {
		t.Run(c.name, func(t *testing.T) { wantLost(t, c.s, c.bytes, c.sent, c.now, c.want) })
	}
}

func TestLostSentAboutSince(t *testing.T) {
	s := of(12000, 24000, 1200, 100, 30)
	for _, now := range someTimes() {
		for _, sent := range []int{0, 1, 98, 99} { // ahead of it: the window does not fall
			wantLost(t, s, 1200, sent, now, of(12000, 24000, 0, 100, 30))
			wantLost(t, s, 1, sent, now, of(12000, 24000, 1199, 100, 30))
		}
		for _, sent := range []int{100, 101, 102, end} {
			wantLost(t, s, 1200, sent, now, of(6000, 6000, 0, min(now+1, end), 0))
		}
		for _, sent := range someTimes() { // no fall yet, or a fall ahead of all times
			wantLost(t, of(12000, 0, 1200, -1, 30), 1200, sent, now, of(6000, 6000, 0, min(now+1, end), 0))
			wantLost(t, of(12000, 0, 1200, 0, 30), 1200, sent, now, of(6000, 6000, 0, min(now+1, end), 0))
		}
		wantLost(t, of(12000, 0, 1200, end, 30), 1200, end-1, now, of(12000, 0, 0, end, 30))
		wantLost(t, of(12000, 0, 1200, end, 30), 1200, end, now, of(6000, 6000, 0, min(now+1, end), 0))
	}
}

func TestExampleOne(t *testing.T) {
	s, _ := Sent(New(), 1200)
	s, e := Acked(s, 1200, 10)
	want(t, "Acked", s, e, of(13200, 0, 0, -1, 0))
	// Lost of the window at first: half of it.
	s, _ = Sent(New(), 1200)
	s, e = Lost(s, 1200, 10, 20)
	want(t, "Lost", s, e, of(6000, 6000, 0, 21, 0))
}

func TestOneBehindTheOther(t *testing.T) {
	s, _ := Sent(New(), 1200)
	s, _ = Sent(s, 1000)
	s, _ = Sent(s, 800)
	s, e := Acked(s, 1200, 5)
	want(t, "Acked", s, e, of(13200, 0, 1800, -1, 0))
	s, e = Lost(s, 1000, 6, 20)
	want(t, "Lost", s, e, of(6600, 6600, 800, 21, 0))
	s, e = Lost(s, 300, 20, 30) // ahead of the fall
	want(t, "Lost", s, e, of(6600, 6600, 500, 21, 0))
	s, e = Acked(s, 200, 20)
	want(t, "Acked", s, e, of(6600, 6600, 300, 21, 0))
	s, e = Gone(s, 100)
	want(t, "Gone", s, e, of(6600, 6600, 200, 21, 0))
	s, e = Acked(s, 150, 21) // at Since
	want(t, "Acked", s, e, of(6600, 6600, 50, 21, 150))
	s, e = Lost(s, 50, 22, 40)
	want(t, "Lost", s, e, of(3300, 3300, 0, 41, 0))
}

// Errors

func TestWrongWindows(t *testing.T) {
	for _, s := range wrongStates() {
		refusesAll(t, s, 1, 0, 0, api.ErrArg)
		refusesAll(t, s, 1200, 100, 100, api.ErrArg)
		refusesAll(t, s, 1200, end, end, api.ErrArg)
		refusesAll(t, s, 0, -1, -1, api.ErrArg)
		refusesAll(t, s, math.MaxInt, math.MinInt, math.MaxInt, api.ErrArg)
	}
}

func TestWrongBytes(t *testing.T) {
	for _, s := range rightStates() {
		for _, bytes := range wrongBytes() {
			refusesAll(t, s, bytes, 100, 100, api.ErrArg)
			refusesAll(t, s, bytes, -1, end+1, api.ErrArg)
		}
	}
}

func TestWrongTimes(t *testing.T) {
	for _, s := range rightStates() {
		for _, time := range wrongTimes() {
			for _, bytes := range []int{1, 1200} {
				got, e := Acked(s, bytes, time)
				refuses(t, "Acked", got, e, api.ErrArg)
				got, e = Lost(s, bytes, time, 100)
				refuses(t, "Lost", got, e, api.ErrArg)
				got, e = Lost(s, bytes, 100, time)
				refuses(t, "Lost", got, e, api.ErrArg)
				got, e = Lost(s, bytes, time, time)
				refuses(t, "Lost", got, e, api.ErrArg)
			}
		}
	}
}

func TestRightTimes(t *testing.T) {
	s := of(12000, 0, 1200, -1, 0)
	for _, sent := range someTimes() {
		if _, e := Acked(s, 1200, sent); e != api.OK {
			t.Errorf("Acked of the time %d: %v", sent, e)
		}
		for _, now := range someTimes() {
			if _, e := Lost(s, 1200, sent, now); e != api.OK {
				t.Errorf("Lost of the times %d, %d: %v", sent, now, e)
			}
		}
	}
}

func TestMoreThanFlight(t *testing.T) {
	for _, flight := range []int{0, 1, 2, 499, 600, 1198, 1199} {
		for _, s := range rightStates() {
			s.Flight = flight
			for _, time := range someTimes() {
				refusesLeaving(t, s, flight+1, time, time, api.ErrFlow) // one more
				refusesLeaving(t, s, 1200, time, time, api.ErrFlow)
			}
		}
	}
}

func TestJustFlight(t *testing.T) {
	for _, flight := range []int{1, 2, 500, 1199, 1200} {
		for _, s := range rightStates() {
			s.Flight = flight
			for _, time := range someTimes() {
				if got, e := Acked(s, flight, time); got.Flight != 0 || e != api.OK {
					t.Errorf("Acked(%v, %d, %d) is %v, %v", s, flight, time, got, e)
				}
				if got, e := Lost(s, flight, time, time); got.Flight != 0 || e != api.OK {
					t.Errorf("Lost(%v, %d, %d, %d) is %v, %v", s, flight, time, time, got, e)
				}
			}
			empty := s
			empty.Flight = 0
			wantGone(t, s, flight, empty)
		}
	}
}

func TestArgumentsAreAskedFirst(t *testing.T) {
	// Nothing is under way, so that without these arguments ErrFlow would be answered.
	for _, time := range wrongTimes() {
		got, e := Acked(New(), 1200, time)
		refuses(t, "Acked", got, e, api.ErrArg)
		got, e = Lost(New(), 1200, time, 0)
		refuses(t, "Lost", got, e, api.ErrArg)
		got, e = Lost(New(), 1200, 0, time)
		refuses(t, "Lost", got, e, api.ErrArg)
	}
	refusesAll(t, New(), 1201, 0, 0, api.ErrArg)
	refusesAll(t, of(12000, 0, 12000, -1, 12000), 1, 0, 0, api.ErrArg)
	refusesAll(t, of(2399, 0, 0, -1, 0), 1200, 0, 0, api.ErrArg)
	// There is no room, either.
	for _, bytes := range wrongBytes() {
		got, e := Sent(of(12000, 0, 12000, -1, 0), bytes)
		refuses(t, "Sent", got, e, api.ErrArg)
		got, e = Sent(of(12000, 0, full, -1, 0), bytes)
		refuses(t, "Sent", got, e, api.ErrArg)
	}
}

func TestSentAsksRoomAlone(t *testing.T) {
	// Sending asks for room, and not whether so many are under way; what leaves asks the other way round.
	wantSent(t, New(), 1200, of(12000, 0, 1200, -1, 0))
	refusesLeaving(t, New(), 1200, 0, 0, api.ErrFlow)
	crowded := of(12000, 24000, 12000, 7, 30)
	got, e := Sent(crowded, 1200)
	refuses(t, "Sent", got, e, api.ErrFlow)
	wantAcked(t, crowded, 1200, 6, of(12000, 24000, 10800, 7, 30))
	wantLost(t, crowded, 1200, 6, 6, of(12000, 24000, 10800, 7, 30))
	wantGone(t, crowded, 1200, of(12000, 24000, 10800, 7, 30))
}

func TestRefusedChangesNothing(t *testing.T) {
	s := of(12000, 24000, 1100, 7, 30)
	kept := s
	refusesAll(t, s, 0, 0, 0, api.ErrArg)
	refusesAll(t, s, 1201, 7, 7, api.ErrArg)
	refusesLeaving(t, s, 1101, 7, 7, api.ErrFlow)
	if s != kept {
		t.Errorf("what was handed in is %v, not %v", s, kept)
	}
	wantAcked(t, s, 1100, 7, of(13100, 24000, 0, 7, 0))
	wantLost(t, s, 1100, 7, 9, of(6000, 6000, 0, 10, 0))
	wantSent(t, s, 1100, of(12000, 24000, 2200, 7, 30))
	wantGone(t, s, 1100, of(12000, 24000, 0, 7, 30))
	if s != kept {
		t.Errorf("what was handed in is %v, not %v", s, kept)
	}
}
