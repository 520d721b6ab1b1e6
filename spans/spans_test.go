package spans

import (
	"math"
	"math/rand"
	"slices"
	"testing"

	"turnbuckle/api"
)

// highest is the highest number that a set may have.
const highest = 1<<62 - 1

// set is a set that is told by its spans' ends, two by two.
func set(ends ...int) []api.Span {
	var l []api.Span
	for i := 0; i < len(ends); i += 2 {
		l = append(l, api.Span{From: ends[i], To: ends[i+1]})
	}
	return l
}

// every is a set of so many spans of a number each, from one on, with so many left out behind each.
func every(count, from, out int) []api.Span {
	var l []api.Span
	for i := range count {
		n := from + i*(out+1)
		l = append(l, api.Span{From: n, To: n})
	}
	return l
}

// wrongSets are sets that may not be.
func wrongSets() [][]api.Span {
	return [][]api.Span{
		set(2, 1),
		set(highest, 0),
		set(0, -1),
		set(-1, -1),
		set(-1, 3),
		set(-2, -1),
		set(math.MinInt, 3),
		set(math.MinInt, math.MinInt),
		set(math.MinInt, math.MaxInt),
		set(5, highest+1),
		set(highest+1, highest+1),
		set(highest+1, highest+2),
		set(0, math.MaxInt),
		set(math.MaxInt, math.MaxInt),
		set(math.MaxInt, math.MinInt),
		set(1, 3, 3, 5),        // overlap by one number
		set(1, 5, 2, 7),        // overlap
		set(1, 9, 2, 3),        // one lies within the other
		set(1, 3, 1, 3),        // twice the same
		set(1, 3, 4, 5),        // touch
		set(0, 0, 1, 1),        // touch, of one number each
		set(7, 9, 1, 3),        // fall
		set(5, 5, 3, 3),        // fall
		set(5, 5, 4, 4),        // fall and touch
		set(1, 3, 7, 6),        // the last one turned round
		set(3, 1, 7, 8),        // the first one turned round
		set(1, 3, 7, 6, 9, 10), // the one between turned round
		set(1, 3, 5, 7, 8, 9),  // the last two touch
		set(1, 2, 5, 9, 7, 12), // the last two overlap
		set(0, highest, 0, 0),  // nothing has room behind
		set(1, 3, math.MinInt, math.MinInt),
		set(1, 3, math.MinInt, 9),
		set(math.MaxInt, math.MaxInt, math.MinInt, math.MinInt),
		set(math.MaxInt-1, math.MaxInt, 1, 2),
		set(highest, highest, highest+2, highest+2),
		every(257, 0, 1),
		every(257, 7, 1000),
		every(300, 0, 1),
		append(every(255, 0, 1), set(509, 510)...),
	}
}

// rightSets are sets that may be.
func rightSets() [][]api.Span {
	return [][]api.Span{
		nil,
		{},
		set(0, 0),
		set(0, 9),
		set(5, 5),
		set(highest, highest),
		set(highest-3, highest),
		set(0, highest),
		set(0, 0, highest, highest),
		set(0, highest-2, highest, highest),
		set(0, 0, 2, highest),
		set(1, 3, 7, 9),
		set(1, 3, 5, 9),
		set(1, 1, 3, 3, 5, 5),
		every(1, 9, 1),
		every(255, 0, 1),
		every(256, 0, 1),
		every(256, 0, 3),
		every(256, 1000, 1<<40),
		every(256, highest-510, 1),
	}
}

// wrongBounds are from and to that are no span that may be.
func wrongBounds() [][2]int {
	return [][2]int{
		{1, 0}, {2, 1}, {9, 3}, {highest, highest - 1}, {highest, 0},
		{-1, -1}, {-1, 0}, {-1, 3}, {-2, -1}, {math.MinInt, 5}, {math.MinInt, math.MinInt}, {math.MinInt, math.MaxInt},
		{0, highest + 1}, {5, highest + 1}, {highest, highest + 1}, {highest + 1, highest + 1}, {0, math.MaxInt},
		{math.MaxInt, math.MaxInt}, {math.MaxInt, math.MinInt}, {5, math.MinInt}, {0, -1}, {highest + 1, highest},
	}
}

// same tells whether two sets are, of which one may be nil where the other is empty.
func same(a, b []api.Span) bool {
	return slices.Equal(a, b)
}

// calls are those that answer a set, each asked with the same from and to.
func calls() map[string]func(l []api.Span, from, to int) ([]api.Span, api.Errno) {
	return map[string]func(l []api.Span, from, to int) ([]api.Span, api.Errno){"Add": Add, "Take": Take, "Gaps": Gaps}
}

func wantAnswer(t *testing.T, name string, l []api.Span, from, to int, want []api.Span) {
	t.Helper()
	kept := slices.Clone(l)
	got, e := calls()[name](l, from, to)
	if e != api.OK || !same(got, want) {
		t.Errorf("%s(%v, %d, %d) is %v, %v, not %v", name, l, from, to, got, e, want)
	}
	if !same(l, kept) {
		t.Errorf("%s(%v, %d, %d) turned what it was handed to %v", name, kept, from, to, l)
	}
}

func wantRefused(t *testing.T, name string, l []api.Span, from, to int, want api.Errno) {
	t.Helper()
	kept := slices.Clone(l)
	got, e := calls()[name](l, from, to)
	if e != want || got != nil {
		t.Errorf("%s(%v, %d, %d) is %v, %v, not %v", name, l, from, to, got, e, want)
	}
	if !same(l, kept) {
		t.Errorf("%s(%v, %d, %d) turned what it was handed to %v", name, kept, from, to, l)
	}
}

func wantTop(t *testing.T, l []api.Span, n int, want []api.Span) {
	t.Helper()
	got, e := Top(l, n)
	if e != api.OK || !same(got, want) {
		t.Errorf("Top(%v, %d) is %v, %v, not %v", l, n, got, e, want)
	}
}

// wantJoined holds an Add of numbers with their Add in the other way: of the whole set to these.
func wantJoined(t *testing.T, l []api.Span, from, to int, want []api.Span) {
	t.Helper()
	wantAnswer(t, "Add", l, from, to, want)
	all := set(from, to)
	for _, s := range slices.Backward(l) {
		var e api.Errno
		if all, e = Add(all, s.From, s.To); e != api.OK {
			t.Errorf("Add of %v: %v", s, e)
		}
	}
	if !same(all, want) {
		t.Errorf("%v added to %d to %d is %v, not %v", l, from, to, all, want)
	}
}

// numbers are the small numbers of a set, from one on, each by itself: a set that is told in the slow way.
type numbers struct {
	from int
	in   [64]bool
}

func numbersOf(from int, l []api.Span) numbers {
	all := numbers{from: from}
	for _, s := range l {
		for n := s.From; n <= s.To; n++ {
			all.in[n-from] = true
		}
	}
	return all
}

func (all numbers) turned(from, to int, in bool) numbers {
	for n := from; n <= to; n++ {
		all.in[n-all.from] = in
	}
	return all
}

// within are the numbers from one to another that are in, or are not.
func (all numbers) within(from, to int, in bool) []api.Span {
	var l []api.Span
	for n := from; n <= to; n++ {
		if all.in[n-all.from] != in {
			continue
		}
		if last := len(l) - 1; last >= 0 && l[last].To == n-1 {
			l[last].To = n
		} else {
			l = append(l, api.Span{From: n, To: n})
		}
	}
	return l
}

func (all numbers) spans() []api.Span {
	return all.within(all.from, all.from+len(all.in)-1, true)
}

func (all numbers) count() int {
	n := 0
	for _, in := range all.in {
		if in {
			n++
		}
	}
	return n
}

// someNumbers are numbers of chance: few or many, in long or short spans.
func someNumbers(r *rand.Rand, from int) numbers {
	all := numbers{from: from}
	in, turn := r.Intn(2) == 0, 1+r.Intn(12)
	for i := range all.in {
		if r.Intn(turn) == 0 {
			in = !in
		}
		all.in[i] = in
	}
	return all
}

// bases are where rows of 64 numbers begin: at the first one, somewhere, and so that the last one is the highest.
func bases() []int {
	return []int{0, 1000, highest - 63}
}

// P5.1

func TestRight(t *testing.T) {
	for _, l := range rightSets() {
		if !Right(l) {
			t.Errorf("Right(%v) is false", l)
		}
	}
	for _, l := range wrongSets() {
		if Right(l) {
			t.Errorf("Right(%v) is true", l)
		}
	}
}

func TestRightOfAFaultAnywhere(t *testing.T) {
	faults := []func(l []api.Span, i int){
		func(l []api.Span, i int) { l[i].From = l[i].To + 1 },
		func(l []api.Span, i int) { l[i].To = l[i].From - 1 },
		func(l []api.Span, i int) { l[i].From = -1 },
		func(l []api.Span, i int) { l[i].To = highest + 1 },
		func(l []api.Span, i int) { l[i] = l[(i+1)%len(l)] },
	}
	for i := range 256 {
		for f, fault := range faults {
			l := every(256, 10, 9)
			fault(l, i)
			if Right(l) {
				t.Errorf("fault %d at %d: Right(%v) is true", f, i, l)
			}
		}
	}
}

func TestHas(t *testing.T) {
	cases := []struct {
		l    []api.Span
		n    int
		want bool
	}{
		{nil, 0, false},
		{[]api.Span{}, 5, false},
		{set(0, 0), 0, true},
		{set(0, 0), 1, false},
		{set(0, 0), -1, false},
		{set(5, 5), 4, false},
		{set(5, 5), 5, true},
		{set(5, 5), 6, false},
		{set(1, 3, 7, 9), 0, false},
		{set(1, 3, 7, 9), 1, true},
		{set(1, 3, 7, 9), 2, true},
		{set(1, 3, 7, 9), 3, true},
		{set(1, 3, 7, 9), 4, false},
		{set(1, 3, 7, 9), 6, false},
		{set(1, 3, 7, 9), 7, true},
		{set(1, 3, 7, 9), 9, true},
		{set(1, 3, 7, 9), 10, false},
		{set(1, 3, 5, 9), 4, false},
		{set(0, highest), 0, true},
		{set(0, highest), highest, true},
		{set(0, highest), 1 << 61, true},
		{set(0, highest), -1, false},
		{set(0, highest), highest + 1, false},
		{set(0, highest), math.MinInt, false},
		{set(0, highest), math.MaxInt, false},
		{set(highest, highest), highest, true},
		{set(highest, highest), highest - 1, false},
		{set(0, highest-2, highest, highest), highest - 1, false},
	}
	for _, c := range cases {
		if got := Has(c.l, c.n); got != c.want {
			t.Errorf("Has(%v, %d) is %v", c.l, c.n, got)
		}
	}
}

func TestHasOfManySpans(t *testing.T) {
	for _, count := range []int{1, 2, 3, 255, 256} {
		l := every(count, 0, 1)
		for n := -1; n <= 2*count; n++ {
			want := n >= 0 && n%2 == 0 && n < 2*count
			if got := Has(l, n); got != want {
				t.Errorf("Has of %d spans, %d, is %v", count, n, got)
			}
		}
	}
}

func TestCount(t *testing.T) {
	cases := []struct {
		l    []api.Span
		want int
	}{
		{nil, 0},
		{[]api.Span{}, 0},
		{set(0, 0), 1},
		{set(5, 5), 1},
		{set(5, 6), 2},
		{set(1, 3, 7, 9), 6},
		{set(0, highest), 1 << 62},
		{set(0, highest-2, highest, highest), highest},
		{set(highest, highest), 1},
		{every(255, 0, 1), 255},
		{every(256, 0, 1), 256},
	}
	for _, c := range cases {
		if got := Count(c.l); got != c.want {
			t.Errorf("Count(%v) is %d, not %d", c.l, got, c.want)
		}
	}
}

func TestHasAndCountOfWhatMayNotBe(t *testing.T) {
	for _, l := range wrongSets() {
		if got := Count(l); got != 0 {
			t.Errorf("Count(%v) is %d", l, got)
		}
		for _, s := range l {
			for _, n := range []int{s.From, s.To, 0, 2, 8, highest, math.MinInt, math.MaxInt} {
				if Has(l, n) {
					t.Errorf("Has(%v, %d) is true", l, n)
				}
			}
		}
	}
}

// P5.2

func TestExampleOne(t *testing.T) {
	l := set(1, 3, 7, 9)
	wantAnswer(t, "Add", l, 4, 5, set(1, 5, 7, 9))
	wantAnswer(t, "Add", l, 4, 6, set(1, 9))
}

func TestAdd(t *testing.T) {
	cases := []struct {
		l        []api.Span
		from, to int
		want     []api.Span
	}{
		{nil, 0, 0, set(0, 0)},
		{[]api.Span{}, 4, 9, set(4, 9)},
		{nil, highest, highest, set(highest, highest)},
		{nil, 0, highest, set(0, highest)},
		{set(5, 9), 5, 9, set(5, 9)},   // the same one
		{set(5, 9), 6, 8, set(5, 9)},   // lies within
		{set(5, 9), 5, 5, set(5, 9)},   // lies within, at its first number
		{set(5, 9), 9, 9, set(5, 9)},   // lies within, at its last number
		{set(5, 9), 4, 10, set(4, 10)}, // covers it
		{set(5, 9), 0, highest, set(0, highest)},
		{set(5, 9), 3, 4, set(3, 9)},       // touches it ahead
		{set(5, 9), 3, 5, set(3, 9)},       // covers its first number
		{set(5, 9), 10, 10, set(5, 10)},    // touches it behind
		{set(5, 9), 9, 12, set(5, 12)},     // covers its last number
		{set(5, 9), 3, 3, set(3, 3, 5, 9)}, // one number is left out
		{set(5, 9), 11, 11, set(5, 9, 11, 11)},
		{set(5, 9), 0, 0, set(0, 0, 5, 9)},
		{set(5, 9), highest, highest, set(5, 9, highest, highest)},
		{set(0, 0), 1, 1, set(0, 1)},
		{set(0, 0), 2, 2, set(0, 0, 2, 2)},
		{set(0, 0), 0, 0, set(0, 0)},
		{set(1, 1), 0, 0, set(0, 1)},
		{set(highest, highest), highest - 1, highest - 1, set(highest-1, highest)},
		{set(highest, highest), highest - 2, highest - 2, set(highest-2, highest-2, highest, highest)},
		{set(highest-1, highest-1), highest, highest, set(highest-1, highest)},
		{set(highest, highest), highest, highest, set(highest, highest)},
		{set(0, highest), 0, highest, set(0, highest)},
		{set(0, highest), 7, 9, set(0, highest)},
		{set(1, 3, 7, 9), 5, 5, set(1, 3, 5, 5, 7, 9)},      // between two, none is touched
		{set(1, 3, 7, 9), 4, 4, set(1, 4, 7, 9)},            // between two, the one ahead is touched
		{set(1, 3, 7, 9), 6, 6, set(1, 3, 6, 9)},            // between two, the one behind is touched
		{set(1, 3, 7, 9), 5, 6, set(1, 3, 5, 9)},            // as many
		{set(1, 3, 7, 9), 2, 8, set(1, 9)},                  // joins two
		{set(1, 3, 7, 9), 3, 7, set(1, 9)},                  // joins two
		{set(1, 3, 7, 9), 0, 10, set(0, 10)},                // covers two
		{set(1, 3, 5, 9), 4, 4, set(1, 9)},                  // the one number that is left out
		{set(1, 3, 7, 9, 12, 14), 4, 6, set(1, 9, 12, 14)},  // joins the first two
		{set(1, 3, 7, 9, 12, 14), 10, 11, set(1, 3, 7, 14)}, // joins the last two
		{set(1, 3, 7, 9, 12, 14), 4, 11, set(1, 14)},        // joins all
		{set(1, 3, 7, 9, 12, 14), 0, 20, set(0, 20)},
		{set(1, 3, 7, 9, 12, 14), 5, 10, set(1, 3, 5, 10, 12, 14)},
		{set(1, 3, 7, 9, 12, 14), 7, 9, set(1, 3, 7, 9, 12, 14)},
		{set(1, 3, 7, 9, 12, 14), 20, 30, set(1, 3, 7, 9, 12, 14, 20, 30)},
		{set(4, 5, 7, 9, 12, 14), 0, 1, set(0, 1, 4, 5, 7, 9, 12, 14)},
	}
	for _, c := range cases {
		wantJoined(t, c.l, c.from, c.to, c.want)
	}
}

func TestAddToMany(t *testing.T) {
	for _, count := range []int{255, 256} {
		l := every(count, 10, 3)
		for i, s := range l {
			want := slices.Clone(l)
			want[i].To++
			wantAnswer(t, "Add", l, s.To+1, s.To+1, want)
			want[i].From--
			wantAnswer(t, "Add", l, s.From-1, s.To+1, want)
			want[i] = l[i]
			wantAnswer(t, "Add", l, s.From, s.To, want)
			want = append(set(l[0].From, s.To), l[i+1:]...)
			wantAnswer(t, "Add", l, l[0].From, s.To, want)
			want = append(slices.Clone(l[:i]), set(s.From, l[count-1].To)...)
			wantAnswer(t, "Add", l, s.From, l[count-1].To, want)
		}
		wantAnswer(t, "Add", l, 0, highest, set(0, highest))
		wantAnswer(t, "Add", l, 10, l[count-1].To, set(10, l[count-1].To))
	}
}

func TestAddOfOneSpanTooMany(t *testing.T) {
	l := every(255, 10, 3)
	for _, at := range []int{0, 8, 12, 10 + 4*100 + 2, 10 + 4*254 + 2, 5000, highest} {
		full, e := Add(l, at, at)
		if e != api.OK || len(full) != 256 || !Has(full, at) {
			t.Errorf("Add of %d to 255 spans: %d spans, %v", at, len(full), e)
		}
		if s, e := Add(full, at, at); e != api.OK || !same(s, full) {
			t.Errorf("Add of %d twice: %d spans, %v", at, len(s), e)
		}
	}
	l = every(256, 10, 3)
	last := l[255].To
	for _, at := range []int{0, 8, 12, 10 + 4*100 + 2, last - 2, last + 2, 5000, highest} {
		wantRefused(t, "Add", l, at, at, api.ErrMany)
	}
	wantRefused(t, "Add", l, 0, 8, api.ErrMany)
	wantRefused(t, "Add", l, last+2, highest, api.ErrMany)
	wantAnswer(t, "Add", l, 0, 9, append(set(0, 10), l[1:]...))
	wantAnswer(t, "Add", l, 11, 11, append(set(10, 11), l[1:]...))
	wantAnswer(t, "Add", l, last+1, highest, append(slices.Clone(l[:255]), set(last, highest)...))
}

func TestTake(t *testing.T) {
	cases := []struct {
		l        []api.Span
		from, to int
		want     []api.Span
	}{
		{nil, 0, 0, nil},
		{[]api.Span{}, 4, 9, nil},
		{nil, 0, highest, nil},
		{set(0, 0), 0, 0, nil},
		{set(0, 0), 1, 1, set(0, 0)},
		{set(0, 1), 0, 0, set(1, 1)},
		{set(0, 1), 1, 1, set(0, 0)},
		{set(0, 2), 1, 1, set(0, 0, 2, 2)},
		{set(highest, highest), highest, highest, nil},
		{set(highest, highest), highest - 1, highest - 1, set(highest, highest)},
		{set(highest-2, highest), highest - 1, highest - 1, set(highest-2, highest-2, highest, highest)},
		{set(0, highest), 0, highest, nil},
		{set(0, highest), 0, highest - 1, set(highest, highest)},
		{set(0, highest), 1, highest, set(0, 0)},
		{set(0, highest), 0, 0, set(1, highest)},
		{set(0, highest), highest, highest, set(0, highest-1)},
		{set(0, highest), 7, 9, set(0, 6, 10, highest)},
		{set(5, 9), 5, 9, nil},       // a whole one
		{set(5, 9), 4, 10, nil},      // a whole one, and more
		{set(5, 9), 5, 5, set(6, 9)}, // its first number
		{set(5, 9), 9, 9, set(5, 8)}, // its last number
		{set(5, 9), 0, 5, set(6, 9)},
		{set(5, 9), 9, 12, set(5, 8)},
		{set(5, 9), 7, 7, set(5, 6, 8, 9)}, // cuts it
		{set(5, 9), 6, 8, set(5, 5, 9, 9)}, // cuts it
		{set(5, 9), 0, 4, set(5, 9)},       // touches it alone
		{set(5, 9), 10, 12, set(5, 9)},     // touches it alone
		{set(5, 9), 0, 3, set(5, 9)},
		{set(5, 9), 11, highest, set(5, 9)},
		{set(1, 3, 7, 9), 4, 6, set(1, 3, 7, 9)},
		{set(1, 3, 7, 9), 5, 5, set(1, 3, 7, 9)},
		{set(1, 3, 7, 9), 0, 0, set(1, 3, 7, 9)},
		{set(1, 3, 7, 9), 10, 10, set(1, 3, 7, 9)},
		{set(1, 3, 7, 9), 3, 7, set(1, 2, 8, 9)},
		{set(1, 3, 7, 9), 2, 8, set(1, 1, 9, 9)},
		{set(1, 3, 7, 9), 1, 3, set(7, 9)},
		{set(1, 3, 7, 9), 1, 6, set(7, 9)},
		{set(1, 3, 7, 9), 4, 9, set(1, 3)},
		{set(1, 3, 7, 9), 1, 9, nil},
		{set(1, 3, 7, 9), 0, highest, nil},
		{set(1, 3, 7, 9), 2, 2, set(1, 1, 3, 3, 7, 9)},
		{set(1, 3, 7, 9, 12, 14), 7, 9, set(1, 3, 12, 14)},
		{set(1, 3, 7, 9, 12, 14), 2, 13, set(1, 1, 14, 14)},
		{set(1, 3, 7, 9, 12, 14), 3, 12, set(1, 2, 13, 14)},
		{set(1, 3, 7, 9, 12, 14), 4, 11, set(1, 3, 12, 14)},
		{set(1, 3, 7, 9, 12, 14), 8, 8, set(1, 3, 7, 7, 9, 9, 12, 14)},
		{set(1, 3, 5, 9), 4, 4, set(1, 3, 5, 9)},
		{set(1, 1, 3, 3, 5, 5), 3, 3, set(1, 1, 5, 5)},
	}
	for _, c := range cases {
		wantAnswer(t, "Take", c.l, c.from, c.to, c.want)
	}
}

func TestTakeFromMany(t *testing.T) {
	for _, count := range []int{255, 256} {
		l := every(count, 10, 3)
		for i, s := range l {
			without := slices.Delete(slices.Clone(l), i, i+1)
			wantAnswer(t, "Take", l, s.From, s.To, without)
			wantAnswer(t, "Take", l, s.From-3, s.To+3, without)
			wantAnswer(t, "Take", l, s.To+1, s.To+3, l)
			wantAnswer(t, "Take", l, 0, s.To, l[i+1:])
			wantAnswer(t, "Take", l, s.From, highest, l[:i])
		}
		wantAnswer(t, "Take", l, 0, highest, nil)
	}
}

func TestTakeOfOneSpanTooMany(t *testing.T) {
	// Spans of three numbers each, so that each of them can be cut.
	var l []api.Span
	for i := range 256 {
		l = append(l, api.Span{From: 5 * i, To: 5*i + 2})
	}
	for i, s := range l {
		wantRefused(t, "Take", l, s.From+1, s.From+1, api.ErrMany)
		want := slices.Clone(l)
		want[i].From++
		wantAnswer(t, "Take", l, s.From, s.From, want)
		want[i] = api.Span{From: s.From, To: s.To - 1}
		wantAnswer(t, "Take", l, s.To, s.To, want)
	}
	// Two that are cut at one end each are as many as they were.
	wantAnswer(t, "Take", l, 1, 6, append(set(0, 0, 7, 7), l[2:]...))
	for i, s := range l[:255] {
		got, e := Take(l[:255], s.From+1, s.From+1)
		want := slices.Concat(l[:i], set(s.From, s.From, s.To, s.To), l[i+1:255])
		if e != api.OK || !same(got, want) {
			t.Errorf("Take of %d out of 255 spans: %d spans, %v", s.From+1, len(got), e)
		}
	}
}

func TestWrongSetsAreRefused(t *testing.T) {
	bounds := append(wrongBounds(), [2]int{0, 0}, [2]int{0, highest}, [2]int{1, 3}, [2]int{highest, highest}, [2]int{600, 700})
	for _, l := range wrongSets() {
		for _, b := range bounds {
			for name := range calls() {
				wantRefused(t, name, l, b[0], b[1], api.ErrArg)
			}
		}
	}
}

func TestWrongBoundsAreRefused(t *testing.T) {
	for _, l := range rightSets() {
		for _, b := range wrongBounds() {
			for name := range calls() {
				wantRefused(t, name, l, b[0], b[1], api.ErrArg)
			}
		}
	}
}

// P5.3

func TestTop(t *testing.T) {
	l := set(1, 3, 7, 9, 12, 14)
	wantTop(t, l, 0, nil)
	wantTop(t, l, 1, set(12, 14))
	wantTop(t, l, 2, set(7, 9, 12, 14))
	wantTop(t, l, 3, l)
	wantTop(t, l, 4, l)
	wantTop(t, l, 256, l)
	wantTop(t, l, math.MaxInt, l)
	for _, n := range []int{0, 1, 5, math.MaxInt} {
		wantTop(t, nil, n, nil)
		wantTop(t, []api.Span{}, n, nil)
	}
	for _, count := range []int{1, 255, 256} {
		l := every(count, 3, 2)
		for n := range count + 3 {
			wantTop(t, l, n, l[max(0, count-n):])
		}
	}
}

func TestTopRefuses(t *testing.T) {
	for _, l := range rightSets() {
		for _, n := range []int{-1, -2, -256, math.MinInt} {
			if got, e := Top(l, n); e != api.ErrArg || got != nil {
				t.Errorf("Top(%v, %d) is %v, %v", l, n, got, e)
			}
		}
	}
	for _, l := range wrongSets() {
		for _, n := range []int{-1, 0, 1, 2, 256, 257, math.MinInt, math.MaxInt} {
			if got, e := Top(l, n); e != api.ErrArg || got != nil {
				t.Errorf("Top(%v, %d) is %v, %v", l, n, got, e)
			}
		}
	}
}

func TestGaps(t *testing.T) {
	l := set(1, 3, 7, 9, 12, 14)
	cases := []struct {
		l        []api.Span
		from, to int
		want     []api.Span
	}{
		{nil, 0, 0, set(0, 0)},
		{[]api.Span{}, 4, 9, set(4, 9)},
		{nil, 0, highest, set(0, highest)},
		{nil, highest, highest, set(highest, highest)},
		{set(0, highest), 0, highest, nil},
		{set(0, highest), 0, 0, nil},
		{set(0, highest), highest, highest, nil},
		{set(0, 0), 0, highest, set(1, highest)},
		{set(highest, highest), 0, highest, set(0, highest-1)},
		{set(0, 0, highest, highest), 0, highest, set(1, highest-1)},
		{set(0, highest-2, highest, highest), 0, highest, set(highest-1, highest-1)},
		{l, 0, 20, set(0, 0, 4, 6, 10, 11, 15, 20)},
		{l, 0, 14, set(0, 0, 4, 6, 10, 11)},
		{l, 1, 14, set(4, 6, 10, 11)}, // as from the set's first number to its last
		{l, 2, 13, set(4, 6, 10, 11)}, // both within a span
		{l, 3, 12, set(4, 6, 10, 11)},
		{l, 4, 11, set(4, 6, 10, 11)},
		{l, 5, 10, set(5, 6, 10, 10)}, // both between two
		{l, 5, 8, set(5, 6)},          // between two, and within one
		{l, 8, 10, set(10, 10)},       // within one, and between two
		{l, 7, 9, nil},                // a span itself
		{l, 8, 8, nil},                // within it
		{l, 4, 6, set(4, 6)},          // a gap itself
		{l, 5, 5, set(5, 5)},          // within it
		{l, 3, 4, set(4, 4)},
		{l, 6, 7, set(6, 6)},
		{l, 0, 0, set(0, 0)},
		{l, 1, 1, nil},
		{l, 15, 15, set(15, 15)},
		{l, 100, highest, set(100, highest)},
		{set(1, 3, 5, 9), 0, 10, set(0, 0, 4, 4, 10, 10)},
	}
	for _, c := range cases {
		wantAnswer(t, "Gaps", c.l, c.from, c.to, c.want)
	}
}

func TestGapsOfMany(t *testing.T) {
	l := every(256, 1, 1)
	wantAnswer(t, "Gaps", l, 0, 512, every(257, 0, 1))
	wantAnswer(t, "Gaps", l, 1, 512, every(256, 2, 1))
	wantAnswer(t, "Gaps", l, 0, 511, every(256, 0, 1))
	wantAnswer(t, "Gaps", l, 1, 511, every(255, 2, 1))
	wantAnswer(t, "Gaps", l, 0, highest, append(every(256, 0, 1), set(512, highest)...))
}

// P5.4

func TestNumbersOfAddAndTake(t *testing.T) {
	r := rand.New(rand.NewSource(54))
	for range 3000 {
		base := bases()[r.Intn(len(bases()))]
		all := someNumbers(r, base)
		l := all.spans()
		from := base + r.Intn(64)
		to := from + r.Intn(base+64-from)
		wantAnswer(t, "Add", l, from, to, all.turned(from, to, true).spans())
		wantAnswer(t, "Take", l, from, to, all.turned(from, to, false).spans())
		wantAnswer(t, "Gaps", l, from, to, all.within(from, to, false))
		added, _ := Add(l, from, to)
		taken, _ := Take(l, from, to)
		if !Right(l) || !Right(added) || !Right(taken) {
			t.Errorf("%v, %d, %d: an answer may not be: %v, %v", l, from, to, added, taken)
		}
		if Count(l) != all.count() {
			t.Errorf("Count(%v) is %d, not %d", l, Count(l), all.count())
		}
		for n := base; n < base+64; n++ {
			in, asked := all.in[n-base], from <= n && n <= to
			if Has(l, n) != in || Has(added, n) != (in || asked) || Has(taken, n) != (in && !asked) {
				t.Errorf("%v, %d, %d: %d is told wrong", l, from, to, n)
			}
		}
	}
}

// P5.5

func TestOrdersOfAdd(t *testing.T) {
	r := rand.New(rand.NewSource(55))
	for range 500 {
		base := bases()[r.Intn(len(bases()))]
		all := numbers{from: base}
		var added []api.Span
		for range 1 + r.Intn(12) {
			from := base + r.Intn(64)
			to := from + r.Intn(min(9, base+64-from))
			added = append(added, api.Span{From: from, To: to})
			all = all.turned(from, to, true)
		}
		for range 6 {
			var l []api.Span
			for _, s := range added {
				var e api.Errno
				if l, e = Add(l, s.From, s.To); e != api.OK {
					t.Fatalf("Add(%v): %v", s, e)
				}
			}
			if !same(l, all.spans()) {
				t.Errorf("%v added are %v, not %v", added, l, all.spans())
			}
			r.Shuffle(len(added), func(i, k int) { added[i], added[k] = added[k], added[i] })
		}
	}
}

func TestOrdersOfAddOfMany(t *testing.T) {
	want := every(256, 0, 1)
	orders := map[string][]int{"rising": {}, "falling": {}, "from between": {}, "chance": rand.New(rand.NewSource(5)).Perm(256)}
	for i := range 256 {
		orders["rising"] = append(orders["rising"], i)
		orders["falling"] = append(orders["falling"], 255-i)
		orders["from between"] = append(orders["from between"], i*101%256)
	}
	for name, order := range orders {
		var l []api.Span
		for _, i := range order {
			var e api.Errno
			if l, e = Add(l, 2*i, 2*i); e != api.OK {
				t.Fatalf("%s: Add of %d: %v", name, 2*i, e)
			}
		}
		if !same(l, want) {
			t.Errorf("%s: %v", name, l)
		}
	}
}

// P5.6

func TestGapsOfGaps(t *testing.T) {
	r := rand.New(rand.NewSource(56))
	for range 2000 {
		base := bases()[r.Intn(len(bases()))]
		all := someNumbers(r, base)
		from := base + r.Intn(64)
		to := from + r.Intn(base+64-from)
		gaps, e := Gaps(all.spans(), from, to)
		if e != api.OK {
			t.Fatalf("Gaps(%v, %d, %d): %v", all.spans(), from, to, e)
		}
		wantAnswer(t, "Gaps", gaps, from, to, all.within(from, to, true))
	}
	for _, l := range rightSets() {
		gaps, e := Gaps(l, 0, highest)
		if e != api.OK {
			t.Errorf("Gaps(%v): %v", l, e)
		}
		if len(gaps) <= 256 {
			wantAnswer(t, "Gaps", gaps, 0, highest, l)
		}
	}
}

func TestGapsThatAreTooMany(t *testing.T) {
	gaps, _ := Gaps(every(256, 1, 1), 0, 512)
	if len(gaps) != 257 {
		t.Fatalf("%d gaps", len(gaps))
	}
	wantRefused(t, "Gaps", gaps, 0, 512, api.ErrArg)
}

// R4: what is handed in is neither turned nor kept, and what is answered is the caller's.

func TestAnswersAreNewMemory(t *testing.T) {
	ask := calls()
	ask["Top"] = func(l []api.Span, from, to int) ([]api.Span, api.Errno) { return Top(l, to) }
	bounds := [][2]int{{0, 0}, {1, 3}, {2, 2}, {4, 6}, {7, 9}, {10, 20}, {15, 15}, {0, 40}, {30, 40}}
	for name, call := range ask {
		for _, b := range bounds {
			l := append(make([]api.Span, 0, 64), set(1, 3, 7, 9, 12, 14)...)
			kept := slices.Clone(l)
			one, _ := call(l, b[0], b[1])
			two, _ := call(l, b[0], b[1])
			if !same(one, two) {
				t.Errorf("%s(%v): %v, and then %v", name, b, one, two)
			}
			for i := range one {
				one[i] = api.Span{From: -7, To: -7}
			}
			_ = append(one[:len(one):cap(one)], set(-8, -8)...)
			for i := len(l); i < cap(l); i++ {
				if l[:cap(l)][i] != (api.Span{}) {
					t.Errorf("%s(%v) wrote behind what it was handed", name, b)
				}
			}
			if !same(l, kept) {
				t.Errorf("%s(%v): a write into the answer turned what was handed in to %v", name, b, l)
			}
			whole := slices.Clone(two)
			for i := range l {
				l[i] = api.Span{From: -9, To: -9}
			}
			if !same(two, whole) {
				t.Errorf("%s(%v): a write into what was handed in turned the answer to %v", name, b, two)
			}
		}
	}
}

func TestQuestionsTurnNothing(t *testing.T) {
	for _, l := range append(rightSets(), wrongSets()...) {
		kept := slices.Clone(l)
		Right(l)
		Count(l)
		Has(l, 7)
		Top(l, 1)
		if !same(l, kept) {
			t.Errorf("%v was turned to %v", kept, l)
		}
	}
}

// Searching: of a list of any kind.

func TestFirst(t *testing.T) {
	for count := range 20 {
		for at := 0; at <= count; at++ {
			texts := make([]string, count)
			for i := at; i < count; i++ {
				texts[i] = "b"
			}
			if got := first(texts, func(s string) bool { return s == "b" }); got != at {
				t.Errorf("first of %q is %d, not %d", texts, got, at)
			}
		}
	}
}
