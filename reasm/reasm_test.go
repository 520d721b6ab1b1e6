package reasm

import (
	"bytes"
	"math"
	"testing"

	"turnbuckle/api"
)

const (
	// highest is the highest offset, and the highest end.
	highest = 1<<62 - 1
	// widest is the widest window.
	widest = 4096
)

// state is all that a stream answers without being turned.
type state struct {
	ready, limit, at, held, end int
	known, over, broken         bool
}

func look(s *Stream) state {
	end, known := s.End()
	return state{s.Ready(), s.Limit(), s.At(), s.Held(), end, known, s.Over(), s.Broken()}
}

func wantState(t *testing.T, s *Stream, w state) {
	t.Helper()
	for range 2 { // asked twice, it answers the same
		if got := look(s); got != w {
			t.Errorf("it is %+v, not %+v", got, w)
		}
	}
}

// stream is one of which nothing came.
func stream(t *testing.T, window int) *Stream {
	t.Helper()
	s, e := New(window)
	if s == nil || e != api.OK {
		t.Fatalf("New(%d) is %v, %v", window, s, e)
	}
	return s
}

func takes(t *testing.T, s *Stream, offset int, b string, fin bool) {
	t.Helper()
	if e := s.Data(offset, []byte(b), fin); e != api.OK {
		t.Fatalf("Data(%d, %q, %v) is %v", offset, b, fin, e)
	}
}

// refuses wants bytes to be refused, and nothing to turn.
func refuses(t *testing.T, s *Stream, offset int, b string, fin bool, why api.Errno) {
	t.Helper()
	was := look(s)
	if e := s.Data(offset, []byte(b), fin); e != why {
		t.Errorf("Data(%d, %q, %v) is %v, not %v", offset, b, fin, e, why)
	}
	wantState(t, s, was)
}

func resets(t *testing.T, s *Stream, end int) {
	t.Helper()
	if e := s.Reset(end); e != api.OK {
		t.Fatalf("Reset(%d) is %v", end, e)
	}
}

// refusesReset wants a reset to be refused, and nothing to turn.
func refusesReset(t *testing.T, s *Stream, end int, why api.Errno) {
	t.Helper()
	was := look(s)
	if e := s.Reset(end); e != why {
		t.Errorf("Reset(%d) is %v, not %v", end, e, why)
	}
	wantState(t, s, was)
}

func reads(t *testing.T, s *Stream, n int, w string) {
	t.Helper()
	if got := s.Read(n); string(got) != w {
		t.Errorf("Read(%d) is %q, not %q", n, got, w)
	}
}

// text is so many bytes of which no two that lie near are alike.
func text(n int) string {
	b := make([]byte, n)
	for i := range b {
		b[i] = byte(i*7 + i>>8)
	}
	return string(b)
}

// The chapter's example.
func TestExample(t *testing.T) {
	s := stream(t, 8)
	takes(t, s, 2, "c", false)
	takes(t, s, 0, "ab", false)
	wantState(t, s, state{ready: 3, limit: 8, held: 3})
	reads(t, s, 9, "abc")
	wantState(t, s, state{limit: 11, at: 3})
}

// P9.1: a window is from 1 to 4096.
func TestNew(t *testing.T) {
	for _, window := range []int{1, 2, 8, widest - 1, widest} {
		wantState(t, stream(t, window), state{limit: window})
	}
	for _, window := range []int{0, -1, -2, -widest, math.MinInt, widest + 1, widest + 2, 2 * widest, highest, math.MaxInt} {
		if s, e := New(window); s != nil || e != api.ErrArg {
			t.Errorf("New(%d) is %v, %v, not nil, %v", window, s, e, api.ErrArg)
		}
	}
}

// P9.1: a window is filled to its last byte, and no further.
func TestWindows(t *testing.T) {
	for _, window := range []int{1, 2, widest - 1, widest} {
		s := stream(t, window)
		refuses(t, s, 0, text(window+1), false, api.ErrFlow)
		refuses(t, s, window, "x", false, api.ErrFlow)
		takes(t, s, 0, text(window), false)
		wantState(t, s, state{ready: window, limit: window, held: window})
		reads(t, s, window+1, text(window))
		wantState(t, s, state{limit: 2 * window, at: window})
	}
}

// P9.1, P9.3: bytes that come in order.
func TestInOrder(t *testing.T) {
	s := stream(t, 8)
	takes(t, s, 0, "abc", false)
	takes(t, s, 3, "de", false)
	wantState(t, s, state{ready: 5, limit: 8, held: 5})
	takes(t, s, 5, "f", true)
	wantState(t, s, state{ready: 6, limit: 8, held: 6, end: 6, known: true})
	reads(t, s, 6, "abcdef")
	wantState(t, s, state{limit: 14, at: 6, end: 6, known: true, over: true})
}

// P9.1, P9.3: bytes that come mixed up, with a gap until all came.
func TestGap(t *testing.T) {
	s := stream(t, 8)
	takes(t, s, 6, "g", true)
	wantState(t, s, state{limit: 8, held: 1, end: 7, known: true})
	takes(t, s, 2, "cd", false)
	wantState(t, s, state{limit: 8, held: 3, end: 7, known: true})
	reads(t, s, 8, "")
	takes(t, s, 0, "a", false)
	wantState(t, s, state{ready: 1, limit: 8, held: 4, end: 7, known: true})
	takes(t, s, 1, "b", false)
	wantState(t, s, state{ready: 4, limit: 8, held: 5, end: 7, known: true})
	reads(t, s, 3, "abc")
	wantState(t, s, state{ready: 1, limit: 11, at: 3, held: 2, end: 7, known: true})
	reads(t, s, 8, "d")
	wantState(t, s, state{limit: 12, at: 4, held: 1, end: 7, known: true})
	reads(t, s, 8, "")
	takes(t, s, 4, "ef", false)
	reads(t, s, 8, "efg")
	wantState(t, s, state{limit: 15, at: 7, end: 7, known: true, over: true})
}

// P9.1: of a byte that came already the first one counts.
func TestFirstCounts(t *testing.T) {
	rows := []struct {
		name  string
		ahead func(*testing.T, *Stream)
		now   int
		b     string
		then  string
	}{
		{"the same", func(t *testing.T, s *Stream) { takes(t, s, 0, "abc", false) }, 0, "XYZ", "abc"},
		{"some more behind", func(t *testing.T, s *Stream) { takes(t, s, 0, "abc", false) }, 1, "XYZ", "abcZ"},
		{"some more ahead", func(t *testing.T, s *Stream) { takes(t, s, 2, "cd", false) }, 0, "XYZ", "XYcd"},
		{"around", func(t *testing.T, s *Stream) { takes(t, s, 2, "cd", false) }, 0, "UVWXYZ", "UVcdYZ"},
		{"within", func(t *testing.T, s *Stream) { takes(t, s, 0, "abcd", false) }, 1, "XY", "abcd"},
		{"over a gap", func(t *testing.T, s *Stream) {
			takes(t, s, 0, "a", false)
			takes(t, s, 3, "d", false)
		}, 0, "WXYZ", "aXYd"},
		{"over gaps", func(t *testing.T, s *Stream) {
			takes(t, s, 1, "b", false)
			takes(t, s, 3, "d", false)
			takes(t, s, 5, "f", false)
		}, 0, "TUVWXYZ", "TbVdXfZ"},
		{"a third time", func(t *testing.T, s *Stream) {
			takes(t, s, 0, "ab", false)
			takes(t, s, 0, "MNO", false)
		}, 0, "WXYZ", "abOZ"},
	}
	for _, r := range rows {
		s := stream(t, 8)
		r.ahead(t, s)
		takes(t, s, r.now, r.b, false)
		if got := s.Read(8); string(got) != r.then {
			t.Errorf("%s: %q, not %q", r.name, got, r.then)
		}
	}
}

// P9.1: bytes that were read may be told again, also with other values: nothing turns but by those that are new.
func TestReadAgain(t *testing.T) {
	s := stream(t, 4)
	takes(t, s, 0, "abcd", false)
	reads(t, s, 3, "abc")
	was := state{ready: 1, limit: 7, at: 3, held: 1}
	for _, b := range []string{"", "a", "abc", "X", "XYZ", "XYZW"} {
		takes(t, s, 0, b, false)
		wantState(t, s, was)
	}
	takes(t, s, 2, "X", false)
	takes(t, s, 3, "", false)
	takes(t, s, 3, "X", false)
	wantState(t, s, was)
	takes(t, s, 1, "RSTUV", false) // read, read, held, new, new
	wantState(t, s, state{ready: 3, limit: 7, at: 3, held: 3})
	reads(t, s, 8, "dUV")
}

// P9.1: bytes of which some were read, some came, and some are missing yet.
func TestPartly(t *testing.T) {
	s := stream(t, 6)
	takes(t, s, 0, "abc", false)
	takes(t, s, 4, "e", false)
	reads(t, s, 2, "ab")
	takes(t, s, 6, "g", false)
	wantState(t, s, state{ready: 1, limit: 8, at: 2, held: 3})
	takes(t, s, 0, "12345678", true) // as long as it may be: 4 and 6 are gaps, and 8 is new
	wantState(t, s, state{ready: 6, limit: 8, at: 2, held: 6, end: 8, known: true})
	reads(t, s, 6, "c4e6g8")
}

// P9.1: an offset is at least 0, and with the bytes at most 2^62 - 1.
func TestOffsets(t *testing.T) {
	s := stream(t, 8)
	for _, offset := range []int{-1, -2, -8, -highest, math.MinInt, highest + 1, highest + 2, math.MaxInt} {
		for _, b := range []string{"", "a", "ab", text(8), text(9)} {
			refuses(t, s, offset, b, false, api.ErrArg)
			refuses(t, s, offset, b, true, api.ErrArg)
		}
	}
	refuses(t, s, highest, "", false, api.ErrFlow)
	refuses(t, s, highest, "a", false, api.ErrArg)
	refuses(t, s, highest-1, "a", false, api.ErrFlow)
	refuses(t, s, highest-1, "ab", false, api.ErrArg)
	refuses(t, s, highest-9, text(9), true, api.ErrFlow)
	refuses(t, s, highest-8, text(9), true, api.ErrArg)
	takes(t, s, 0, "a", false)
	wantState(t, s, state{ready: 1, limit: 8, held: 1})
}

// P9.1: bytes end at the limit at most; no bytes may stand at it.
func TestFlow(t *testing.T) {
	s := stream(t, 8)
	takes(t, s, 0, "abc", false)
	reads(t, s, 3, "abc")
	for _, fin := range []bool{false, true} {
		refuses(t, s, 3, text(9), fin, api.ErrFlow)
		refuses(t, s, 0, text(12), fin, api.ErrFlow)
		refuses(t, s, 10, "xy", fin, api.ErrFlow)
		refuses(t, s, 11, "x", fin, api.ErrFlow)
		refuses(t, s, 12, "x", fin, api.ErrFlow)
		refuses(t, s, 12, "", fin, api.ErrFlow)
		refuses(t, s, 13, "", fin, api.ErrFlow)
	}
	takes(t, s, 11, "", false)
	wantState(t, s, state{limit: 11, at: 3})
	takes(t, s, 9, "j", false)
	wantState(t, s, state{limit: 11, at: 3, held: 1})
	takes(t, s, 10, "k", false)
	takes(t, s, 0, text(3)+"defghijk", false)
	wantState(t, s, state{ready: 8, limit: 11, at: 3, held: 8})
	takes(t, s, 11, "", true)
	wantState(t, s, state{ready: 8, limit: 11, at: 3, held: 8, end: 11, known: true})
	reads(t, s, 8, "defghijk")
}

// P9.1: none is beyond a known end, and no bytes may stand at it.
func TestFinal(t *testing.T) {
	s := stream(t, 8)
	takes(t, s, 3, "de", true)
	was := state{limit: 8, held: 2, end: 5, known: true}
	wantState(t, s, was)
	for _, fin := range []bool{false, true} {
		refuses(t, s, 0, "abcdef", fin, api.ErrFinal)
		refuses(t, s, 4, "ef", fin, api.ErrFinal)
		refuses(t, s, 5, "f", fin, api.ErrFinal)
		refuses(t, s, 6, "g", fin, api.ErrFinal)
		refuses(t, s, 6, "", fin, api.ErrFinal)
		refuses(t, s, 8, "", fin, api.ErrFinal)
	}
	takes(t, s, 5, "", false)
	takes(t, s, 4, "e", false)
	takes(t, s, 3, "d", false)
	wantState(t, s, was)
	takes(t, s, 1, "b", false)
	takes(t, s, 0, "a", false)
	takes(t, s, 2, "cde", false)
	reads(t, s, 8, "abcde")
}

// P9.1: fin ends at the end that is known, and behind all bytes that came.
func TestFin(t *testing.T) {
	s := stream(t, 8)
	takes(t, s, 5, "f", false)
	for _, to := range []int{0, 1, 4, 5} {
		refuses(t, s, to, "", true, api.ErrFinal)
		refuses(t, s, 0, text(to), true, api.ErrFinal)
	}
	refuses(t, s, 4, "e", true, api.ErrFinal)
	refuses(t, s, 9, "", true, api.ErrFlow)
	takes(t, s, 6, "", true) // just behind
	was := state{limit: 8, held: 1, end: 6, known: true}
	wantState(t, s, was)
	takes(t, s, 6, "", true)
	takes(t, s, 5, "X", true)
	wantState(t, s, was)
	for _, to := range []int{0, 4, 5, 7, 8} {
		refuses(t, s, to, "", true, api.ErrFinal)
		refuses(t, s, 0, text(to), true, api.ErrFinal)
	}
	takes(t, s, 0, "abcdeX", true)
	reads(t, s, 8, "abcdef")
	wantState(t, s, state{limit: 14, at: 6, end: 6, known: true, over: true})
}

// P9.1: fin may lie far behind what came, up to the limit; also by bytes that came, or were read.
func TestFinElsewhere(t *testing.T) {
	s := stream(t, 8)
	takes(t, s, 0, "ab", false)
	takes(t, s, 8, "", true)
	wantState(t, s, state{ready: 2, limit: 8, held: 2, end: 8, known: true})

	s = stream(t, 8)
	takes(t, s, 0, "ab", false)
	takes(t, s, 1, "b", true)
	wantState(t, s, state{ready: 2, limit: 8, held: 2, end: 2, known: true})

	s = stream(t, 8)
	takes(t, s, 0, "abc", false)
	reads(t, s, 2, "ab")
	refuses(t, s, 0, "ab", true, api.ErrFinal) // c came, and was not read
	reads(t, s, 1, "c")
	refuses(t, s, 0, "ab", true, api.ErrFinal) // c was read
	refuses(t, s, 2, "", true, api.ErrFinal)
	refuses(t, s, 0, "", true, api.ErrFinal)
	takes(t, s, 0, "abc", true)
	wantState(t, s, state{limit: 11, at: 3, end: 3, known: true, over: true})

	s = stream(t, 8)
	takes(t, s, 0, "abc", false)
	reads(t, s, 3, "abc")
	takes(t, s, 3, "", true)
	wantState(t, s, state{limit: 11, at: 3, end: 3, known: true, over: true})
}

// P9.1: no bytes turn nothing; nil and empty ones are the same, and no byte came by them.
func TestNoBytes(t *testing.T) {
	for _, b := range [][]byte{nil, {}} {
		s := stream(t, 8)
		for _, offset := range []int{0, 1, 7, 8} {
			if e := s.Data(offset, b, false); e != api.OK {
				t.Errorf("Data(%d, %v, false) is %v", offset, b, e)
			}
			wantState(t, s, state{limit: 8})
		}
		if e := s.Data(9, b, false); e != api.ErrFlow {
			t.Errorf("Data(9, %v, false) is %v", b, e)
		}
		if e := s.Data(2, b, true); e != api.OK { // ahead of 8: nothing came there
			t.Errorf("Data(2, %v, true) is %v", b, e)
		}
		wantState(t, s, state{limit: 8, end: 2, known: true})
	}
}

// P9.1, P9.3: a stream of end 0 is over at once.
func TestEndZero(t *testing.T) {
	s := stream(t, 1)
	takes(t, s, 0, "", true)
	was := state{limit: 1, known: true, over: true}
	wantState(t, s, was)
	takes(t, s, 0, "", true)
	takes(t, s, 0, "", false)
	refuses(t, s, 0, "a", false, api.ErrFinal)
	refuses(t, s, 1, "", true, api.ErrFinal)
	refuses(t, s, 0, "ab", true, api.ErrFlow)
	refusesReset(t, s, 0, api.ErrOver)
	refusesReset(t, s, 1, api.ErrOver)
	refusesReset(t, s, 2, api.ErrOver)
	refusesReset(t, s, -1, api.ErrArg)
	reads(t, s, 1, "")
	wantState(t, s, was)

	s = stream(t, 1)
	resets(t, s, 0)
	wantState(t, s, state{limit: 1, known: true, over: true, broken: true})
}

// P9.1: where several errors apply, the first one is told.
func TestDataOrder(t *testing.T) {
	s := stream(t, 4)
	takes(t, s, 1, "b", true) // the end is 2
	refuses(t, s, -1, text(9), true, api.ErrArg)
	refuses(t, s, highest, text(9), true, api.ErrArg)
	refuses(t, s, 0, text(5), true, api.ErrFlow) // and beyond the end
	refuses(t, s, 5, "", true, api.ErrFlow)
	refuses(t, s, 0, text(4), true, api.ErrFinal)
	resets(t, s, 2)
	refuses(t, s, -1, "", false, api.ErrArg)
	refuses(t, s, highest, "a", false, api.ErrArg)
	refuses(t, s, 0, text(5), true, api.ErrOver)
	refuses(t, s, highest, "", false, api.ErrOver)
	refuses(t, s, 0, text(4), true, api.ErrOver)
	refuses(t, s, 0, "", true, api.ErrOver)
	refuses(t, s, 2, "", true, api.ErrOver)
	refuses(t, s, 0, "ab", false, api.ErrOver)
}

// P9.2: an end is from 0 to 2^62 - 1.
func TestResetEnds(t *testing.T) {
	s := stream(t, 8)
	for _, end := range []int{-1, -2, -highest, math.MinInt, highest + 1, highest + 2, math.MaxInt} {
		refusesReset(t, s, end, api.ErrArg)
	}
	refusesReset(t, s, highest, api.ErrFlow)
	refusesReset(t, s, highest-1, api.ErrFlow)
	refusesReset(t, s, 9, api.ErrFlow)
	resets(t, s, 8)
	wantState(t, s, state{limit: 8, end: 8, known: true, over: true, broken: true})
	for _, end := range []int{-1, math.MinInt, highest + 1, math.MaxInt} {
		refusesReset(t, s, end, api.ErrArg)
	}
	for _, end := range []int{0, 7, 8, 9, highest} {
		refusesReset(t, s, end, api.ErrOver)
	}
}

// P9.2: the limit that counts is that behind what was read.
func TestResetAtLimit(t *testing.T) {
	for _, end := range []int{3, 4, 10, 11} {
		s := stream(t, 8)
		takes(t, s, 0, "abc", false)
		reads(t, s, 3, "abc")
		refusesReset(t, s, 12, api.ErrFlow)
		refusesReset(t, s, 2, api.ErrFinal)
		refusesReset(t, s, 0, api.ErrFinal)
		resets(t, s, end) // 3 is just what was read
		wantState(t, s, state{limit: 11, at: 3, end: end, known: true, over: true, broken: true})
		reads(t, s, 8, "")
	}
}

// P9.2: what came and was not read is gone; none came at the end or beyond.
func TestResetHeld(t *testing.T) {
	for _, end := range []int{6, 7, 8, 9} {
		s := stream(t, 8)
		takes(t, s, 0, "abc", false)
		takes(t, s, 5, "f", false)
		reads(t, s, 1, "a")
		refusesReset(t, s, 5, api.ErrFinal)
		refusesReset(t, s, 4, api.ErrFinal)
		refusesReset(t, s, 0, api.ErrFinal)
		refusesReset(t, s, 10, api.ErrFlow)
		wantState(t, s, state{ready: 2, limit: 9, at: 1, held: 3})
		resets(t, s, end)
		wantState(t, s, state{limit: 9, at: 1, end: end, known: true, over: true, broken: true})
		reads(t, s, 8, "")
	}
}

// P9.2: the end that is known is the only one.
func TestResetKnown(t *testing.T) {
	s := stream(t, 8)
	takes(t, s, 3, "de", true)
	for _, end := range []int{0, 3, 4, 6, 8} {
		refusesReset(t, s, end, api.ErrFinal)
	}
	refusesReset(t, s, 9, api.ErrFlow)
	resets(t, s, 5)
	wantState(t, s, state{limit: 8, end: 5, known: true, over: true, broken: true})
}

// P9.2: a stream whose bytes all came is not broken off, whether they were read or not.
func TestResetAllCame(t *testing.T) {
	s := stream(t, 8)
	takes(t, s, 2, "c", true)
	takes(t, s, 0, "a", false)
	refusesReset(t, s, 2, api.ErrFinal) // b is missing
	takes(t, s, 1, "b", false)
	ends := []int{0, 2, 3, 4, 8, 9, highest}
	for _, end := range ends {
		refusesReset(t, s, end, api.ErrOver)
	}
	refusesReset(t, s, -1, api.ErrArg)
	reads(t, s, 2, "ab")
	for _, end := range ends {
		refusesReset(t, s, end, api.ErrOver)
	}
	reads(t, s, 2, "c")
	for _, end := range ends {
		refusesReset(t, s, end, api.ErrOver)
	}
	refusesReset(t, s, highest+1, api.ErrArg)
}

// P9.2: as long as no end is known, bytes may be missing yet: the stream may be broken off just behind them.
func TestResetBehindAll(t *testing.T) {
	s := stream(t, 8)
	takes(t, s, 0, "abc", false)
	refusesReset(t, s, 2, api.ErrFinal)
	resets(t, s, 3)
	wantState(t, s, state{limit: 8, end: 3, known: true, over: true, broken: true})
	reads(t, s, 3, "")
}

// P9.3: so many are read as are asked for, and could be.
func TestRead(t *testing.T) {
	s := stream(t, 8)
	takes(t, s, 0, "abcde", false)
	takes(t, s, 6, "g", false)
	was := state{ready: 5, limit: 8, held: 6}
	for _, n := range []int{0, -1, -5, math.MinInt} {
		reads(t, s, n, "")
		wantState(t, s, was)
	}
	reads(t, s, 2, "ab")
	wantState(t, s, state{ready: 3, limit: 10, at: 2, held: 4})
	reads(t, s, 3, "cde") // just what is ready
	wantState(t, s, state{limit: 13, at: 5, held: 1})
	reads(t, s, 1, "")
	reads(t, s, math.MaxInt, "")
	takes(t, s, 5, "f", false)
	wantState(t, s, state{ready: 2, limit: 13, at: 5, held: 2})
	reads(t, s, math.MaxInt, "fg")
	wantState(t, s, state{limit: 15, at: 7})
	if got := s.Read(1); len(got) != 0 {
		t.Errorf("nothing is ready: %q", got)
	}
}

// P9.3: a stream is over when its end is known and all was read, and not ahead of it.
func TestOver(t *testing.T) {
	s := stream(t, 4)
	takes(t, s, 0, "ab", false)
	reads(t, s, 2, "ab")
	wantState(t, s, state{limit: 6, at: 2})
	takes(t, s, 2, "c", true)
	wantState(t, s, state{ready: 1, limit: 6, at: 2, held: 1, end: 3, known: true})
	reads(t, s, 1, "c")
	wantState(t, s, state{limit: 7, at: 3, end: 3, known: true, over: true})
}

// P9.3: told of up to its limit and read, again and again, a stream goes on.
func TestManyWindows(t *testing.T) {
	for _, window := range []int{1, 2, 7, widest} {
		all := text(20*window + 1)
		s := stream(t, window)
		for at := 0; at+window < len(all); at += window {
			refuses(t, s, at, all[at:at+window+1], false, api.ErrFlow)
			takes(t, s, at, all[at:at+window], false)
			wantState(t, s, state{ready: window, limit: at + window, at: at, held: window})
			takes(t, s, 0, all[:at+window], false)
			reads(t, s, window, all[at:at+window])
			wantState(t, s, state{limit: at + 2*window, at: at + window})
		}
		takes(t, s, 0, all, true)
		reads(t, s, window, all[len(all)-1:])
		wantState(t, s, state{limit: len(all) + window, at: len(all), end: len(all), known: true, over: true})
	}
}

// P9.3: a window that is read in part slides: what is behind stays where it is.
func TestSlides(t *testing.T) {
	all := text(200)
	s := stream(t, 8)
	for at := 0; at+11 <= len(all); at += 3 {
		takes(t, s, at+7, all[at+7:at+8], false)
		takes(t, s, at, all[at:at+7], false)
		reads(t, s, 3, all[at:at+3])
		wantState(t, s, state{ready: 5, limit: at + 11, at: at + 3, held: 5})
		takes(t, s, at+10, all[at+10:at+11], false)
		wantState(t, s, state{ready: 5, limit: at + 11, at: at + 3, held: 6})
	}
}

// P9.3: of a nil stream, and of one that New did not give, nothing is told.
func TestUnmade(t *testing.T) {
	for _, s := range []*Stream{nil, {}, new(Stream)} {
		for range 2 {
			for _, b := range [][]byte{nil, {}, []byte("a"), make([]byte, 5000)} {
				for _, offset := range []int{0, 1, -1, highest, math.MinInt, math.MaxInt} {
					if e := s.Data(offset, b, len(b) == 1); e != api.ErrNil {
						t.Errorf("Data is %v", e)
					}
				}
			}
			for _, end := range []int{0, 1, -1, highest, highest + 1, math.MinInt, math.MaxInt} {
				if e := s.Reset(end); e != api.ErrNil {
					t.Errorf("Reset is %v", e)
				}
			}
			for _, n := range []int{0, 1, -1, math.MinInt, math.MaxInt} {
				if got := s.Read(n); len(got) != 0 {
					t.Errorf("Read is %q", got)
				}
			}
			wantState(t, s, state{over: true})
		}
	}
}

// R4: the bytes that are handed in are neither turned nor kept.
func TestBytesHandedIn(t *testing.T) {
	room := []byte("abcdefgh")
	s := stream(t, 8)
	for _, e := range []api.Errno{
		s.Data(1, room[1:2], false),
		s.Data(0, room[:3], false),
		s.Data(0, room[:6], true),
	} {
		if e != api.OK {
			t.Fatal(e)
		}
	}
	if string(room) != "abcdefgh" {
		t.Errorf("they are %q now", room)
	}
	for i := range room {
		room[i] = 'x'
	}
	reads(t, s, 8, "abcdef")
	if !bytes.Equal(room, []byte("xxxxxxxx")) {
		t.Errorf("they are %q now", room)
	}
}

// R4: what was answered is the caller's, with what lies behind it; and it stays as it is.
func TestBytesAnswered(t *testing.T) {
	s := stream(t, 8)
	takes(t, s, 0, "abcdefgh", false)
	first := s.Read(3)
	second := s.Read(2)
	whole := first[:cap(first)]
	for i := range whole {
		whole[i] = 'x'
	}
	if string(second) != "de" {
		t.Errorf("the second is %q", second)
	}
	takes(t, s, 8, "ijk", true)
	reads(t, s, 8, "fghijk")
	if string(first) != "xxx" || string(second) != "de" {
		t.Errorf("they are %q and %q now", first, second)
	}
}

// R3: one stream turns nothing of another.
func TestTwoStreams(t *testing.T) {
	a, b := stream(t, 4), stream(t, 4)
	takes(t, a, 0, "ab", false)
	wantState(t, b, state{limit: 4})
	takes(t, b, 0, "c", true)
	resets(t, a, 4)
	wantState(t, b, state{ready: 1, limit: 4, held: 1, end: 1, known: true})
	reads(t, b, 4, "c")
	wantState(t, a, state{limit: 4, end: 4, known: true, over: true, broken: true})
}

// R7: what is refused leaves nothing behind, though its bytes lay within the window in part.
func TestRefusedLeavesNothing(t *testing.T) {
	s := stream(t, 4)
	refuses(t, s, 0, "WXYZ!", false, api.ErrFlow)
	refuses(t, s, 2, "YZ!", true, api.ErrFlow)
	refuses(t, s, 5, "", true, api.ErrFlow)
	refusesReset(t, s, 5, api.ErrFlow)
	takes(t, s, 0, "a", false)
	takes(t, s, 2, "", true) // nothing came behind it
	refuses(t, s, 1, "YZ", false, api.ErrFinal)
	refuses(t, s, 1, "", true, api.ErrFinal)
	refusesReset(t, s, 3, api.ErrFinal)
	takes(t, s, 1, "b", false)
	reads(t, s, 4, "ab")
	wantState(t, s, state{limit: 6, at: 2, end: 2, known: true, over: true})
}
