package reasm

import (
	"fmt"
	"math"
	"math/rand"
	"testing"

	"turnbuckle/api"
)

// model tells what a stream answers, as the words tell it: each byte that ever came stands in a map by its offset.
type model struct {
	window, at int
	came       map[int]byte
	end        int
	known      bool
	broken     bool
}

func newModel(window int) *model { return &model{window: window, came: map[int]byte{}} }

// cameFrom tells whether a byte came at an offset or beyond it.
func (m *model) cameFrom(offset int) bool {
	for o := range m.came {
		if o >= offset {
			return true
		}
	}
	return false
}

// ready is how many could be read.
func (m *model) ready() int {
	n := 0
	for !m.broken {
		if _, ok := m.came[m.at+n]; !ok {
			break
		}
		n++
	}
	return n
}

func (m *model) held() int {
	n := 0
	for o := range m.came {
		if o >= m.at && !m.broken {
			n++
		}
	}
	return n
}

func (m *model) data(offset int, b []byte, fin bool) api.Errno {
	if offset < 0 || offset > highest-len(b) {
		return api.ErrArg
	}
	to := offset + len(b)
	switch {
	case m.broken:
		return api.ErrOver
	case to > m.at+m.window:
		return api.ErrFlow
	case m.known && to > m.end:
		return api.ErrFinal
	case fin && (m.known && to != m.end || m.cameFrom(to)):
		return api.ErrFinal
	}
	for i, v := range b {
		if _, ok := m.came[offset+i]; !ok {
			m.came[offset+i] = v
		}
	}
	if fin {
		m.end, m.known = to, true
	}
	return api.OK
}

func (m *model) reset(end int) api.Errno {
	switch {
	case end < 0 || end > highest:
		return api.ErrArg
	case m.broken || m.known && m.at+m.ready() >= m.end:
		return api.ErrOver
	case end > m.at+m.window:
		return api.ErrFlow
	case m.known && end != m.end || m.cameFrom(end):
		return api.ErrFinal
	}
	m.end, m.known, m.broken = end, true, true
	return api.OK
}

func (m *model) read(n int) string {
	var b []byte
	for n > 0 && m.ready() > 0 {
		b = append(b, m.came[m.at])
		m.at++
		n--
	}
	return string(b)
}

func (m *model) state() state {
	s := state{ready: m.ready(), limit: m.at + m.window, at: m.at, held: m.held(), known: m.known, broken: m.broken}
	if m.known {
		s.end = m.end
	}
	s.over = m.broken || m.known && m.at == m.end
	return s
}

// wild is a number that lies near what the stream has, or is one that may not be.
func wild(r *rand.Rand, m *model) int {
	switch r.Intn(12) {
	case 0:
		return -1 - r.Intn(3)
	case 1:
		return []int{math.MinInt, -highest, highest - 1, highest, highest + 1, math.MaxInt}[r.Intn(6)]
	case 2:
		return m.at
	case 3:
		return m.at + m.window
	case 4, 5:
		return m.end
	default:
		return max(m.at-3, 0) + r.Intn(m.window+6)
	}
}

// ask asks something of a stream and its model, and tells what it was and what both answered.
func ask(r *rand.Rand, s *Stream, m *model, ends int) (what, got, want string) {
	switch n := r.Intn(100); {
	case n < 66:
		b := make([]byte, r.Intn(min(m.window, 12)+2))
		r.Read(b)
		offset, fin := wild(r, m), r.Intn(100) < ends
		return fmt.Sprintf("Data(%d, %q, %v)", offset, b, fin), s.Data(offset, b, fin).Error(), m.data(offset, b, fin).Error()
	case n < 66+ends:
		end := wild(r, m)
		return fmt.Sprintf("Reset(%d)", end), s.Reset(end).Error(), m.reset(end).Error()
	default:
		count := r.Intn(m.window+3) - 1
		return fmt.Sprintf("Read(%d)", count), string(s.Read(count)), m.read(count)
	}
}

// P9.1 to P9.3, P9.5, P9.6: over long rows of calls in mixed orders a stream answers what its model does, never holds more than its window, and is turned by nothing once it is over.
func TestRows(t *testing.T) {
	r := rand.New(rand.NewSource(9))
	overs, brokens := 0, 0
	for row := range 3000 {
		window := []int{1, 2, 3, 8, 20}[row%5]
		ends := []int{0, 3, 10, 30}[row%4]
		s, m := stream(t, window), newModel(window)
		for step := range 120 {
			was := look(s)
			what, got, want := ask(r, s, m, ends)
			if got != want {
				t.Fatalf("row %d, step %d: %s is %q, not %q", row, step, what, got, want)
			}
			now := look(s)
			if now != m.state() {
				t.Fatalf("row %d, step %d: behind %s it is %+v, not %+v", row, step, what, now, m.state())
			}
			wantBounds(t, now, window)
			if was.over && now != was {
				t.Fatalf("row %d, step %d: %s turned a stream that was over: %+v, %+v", row, step, what, was, now)
			}
			if t.Failed() {
				t.FailNow()
			}
		}
		if look(s).broken {
			brokens++
		} else if look(s).over {
			overs++
		}
	}
	if overs < 100 || brokens < 100 {
		t.Errorf("only %d streams were read to their ends, and %d broken off", overs, brokens)
	}
}

// wantBounds wants no more to be held than the window has room for, and none beyond the limit or the end.
func wantBounds(t *testing.T, s state, window int) {
	t.Helper()
	if s.ready < 0 || s.ready > s.held || s.held > window || s.limit != s.at+window {
		t.Errorf("out of bounds: %+v", s)
	}
	if s.known && (s.at+s.held > s.end || s.end > s.limit) {
		t.Errorf("beyond the end: %+v", s)
	}
}

// P9.4, P9.5: what is read are the bytes as they were, however they were cut, doubled and mixed up; and all of them in the end.
func TestCutDoubledMixedUp(t *testing.T) {
	r := rand.New(rand.NewSource(94))
	for row := range 60 {
		window := []int{1, 2, 5, 64, 1000, widest}[row%6]
		all := make([]byte, r.Intn(window*12))
		r.Read(all)
		s := stream(t, window)
		var read []byte
		for !s.Over() {
			tellSome(t, r, s, all)
			read = append(read, s.Read(r.Intn(window+2))...)
			wantBounds(t, look(s), window)
			if string(read) != string(all[:len(read)]) {
				t.Fatalf("row %d: other bytes are read than were told", row)
			}
		}
		if string(read) != string(all) {
			t.Errorf("row %d: %d bytes are read of %d", row, len(read), len(all))
		}
	}
}

// tellSome tells pieces of what lies around the window, in any order, some of them twice, some of them already read, some beyond the limit.
func tellSome(t *testing.T, r *rand.Rand, s *Stream, all []byte) {
	t.Helper()
	for range 6 {
		longest := s.Limit() - s.At() + 3
		from := min(max(s.At()-3+r.Intn(longest), 0), len(all))
		to := min(from+r.Intn(longest), len(all))
		for range 1 + r.Intn(2) {
			limit := s.Limit()
			want := api.OK
			if to > limit {
				want = api.ErrFlow
			}
			if e := s.Data(from, all[from:to], to == len(all)); e != want {
				t.Fatalf("Data(%d to %d) is %v, not %v: the limit is %d", from, to, e, want, limit)
			}
		}
	}
}

// P9.4: every byte alone, in every order, and with every part of them read between.
func TestEveryOrder(t *testing.T) {
	const all = "abcdef"
	orders(len(all), nil, func(order []int) {
		for every := 1; every <= 3; every++ {
			s := stream(t, len(all))
			read := ""
			for i, at := range order {
				takes(t, s, at, all[at:at+1], at == len(all)-1)
				takes(t, s, at, "?", false)
				if i%every == 0 {
					read += string(s.Read(every))
				}
			}
			if read += string(s.Read(9)); read != all || !s.Over() {
				t.Fatalf("%v: %q is read", order, read)
			}
		}
	})
}

// orders hands on all orders of the numbers below n.
func orders(n int, ahead []int, take func([]int)) {
	if len(ahead) == n {
		take(ahead)
	}
	for i := range n {
		used := false
		for _, a := range ahead {
			used = used || a == i
		}
		if !used {
			orders(n, append(ahead[:len(ahead):len(ahead)], i), take)
		}
	}
}

// P9.6: once a stream is over, nothing turns it: neither one that was read to its end, nor one that was broken off.
func TestOverStays(t *testing.T) {
	r := rand.New(rand.NewSource(96))
	for _, broken := range []bool{false, true} {
		for row := range 200 {
			s := stream(t, 8)
			takes(t, s, 0, "abc", false)
			reads(t, s, row%4, "abc"[:row%4])
			if broken {
				resets(t, s, 3+row%5)
			} else {
				takes(t, s, 3, "", true)
				s.Read(8)
			}
			was := look(s)
			if !was.over {
				t.Fatalf("it is not over: %+v", was)
			}
			m := newModel(8)
			m.at, m.end = was.at, was.end
			for range 100 {
				turnless(t, r, s, m, broken)
				if now := look(s); now != was {
					t.Fatalf("it was %+v, and is %+v", was, now)
				}
			}
		}
	}
}

// turnless asks of a stream that is over what turns others.
func turnless(t *testing.T, r *rand.Rand, s *Stream, m *model, broken bool) {
	t.Helper()
	b := []byte("XYZXYZXYZ")[:r.Intn(10)]
	e := s.Data(wild(r, m), b, r.Intn(2) == 0)
	if broken && e != api.ErrOver && e != api.ErrArg {
		t.Errorf("Data is %v", e)
	}
	if e := s.Reset(wild(r, m)); e != api.ErrOver && e != api.ErrArg {
		t.Errorf("Reset is %v", e)
	}
	if got := s.Read(r.Intn(12)); len(got) != 0 {
		t.Errorf("Read is %q", got)
	}
}
