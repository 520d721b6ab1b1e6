package rtt

import (
	"math"
	"math/big"
	"math/rand"
	"testing"

	"turnbuckle/api"
)

// last is the last tick.
const last = 1 << 40

// taken is a sample with the delay that the other end told.
type taken struct {
	sample, delay int
}

// of is an estimate that has had a sample.
func of(least, smooth, vary, latest int) State {
	return State{Has: true, Least: least, Smooth: smooth, Var: vary, Latest: latest}
}

// rightStates are estimates that may be.
func rightStates() []State {
	return []State{
		{},
		of(0, 0, 0, 0),
		of(0, 0, 0, last),
		of(0, 0, last, 0),
		of(0, last, 0, 0),
		of(last, 0, 0, last),
		of(last, last, last, last),
		of(0, last, last, last),
		of(1, 1, 1, 1),
		of(60, 95, 47, 60),
		of(60, 95, 47, 61),
		of(60, 10, 47, 100),   // Smooth may be below Least
		of(60, 1000, 47, 100), // and above Latest
		of(last-1, 5, 5, last),
	}
}

// wrongNumbers are no ticks.
func wrongNumbers() []int {
	return []int{-1, -2, -25, -last, math.MinInt, last + 1, last + 2, 2 * last, math.MaxInt - 1, math.MaxInt}
}

// wrongStates are estimates that may not be.
func wrongStates() []State {
	l := []State{
		{Least: 1},
		{Smooth: 1},
		{Var: 1},
		{Latest: 1},
		{Least: 1, Latest: 1},
		{Least: 60, Smooth: 95, Var: 47, Latest: 60},
		{Least: last, Smooth: last, Var: last, Latest: last},
		of(1, 0, 0, 0),
		of(61, 95, 47, 60),
		of(100, 95, 47, 60),
		of(last, 95, 47, last-1),
		of(last, last, last, 0),
	}
	for _, n := range wrongNumbers() {
		l = append(l,
			State{Least: n}, State{Smooth: n}, State{Var: n}, State{Latest: n},
			of(n, 95, 47, 60), of(60, n, 47, 60), of(60, 95, n, 60), of(60, 95, 47, n),
			of(0, n, 0, last), of(0, 0, n, last), of(0, 0, 0, n),
			of(n, n, n, n), of(n, 95, 47, n),
		)
	}
	return l
}

// someDelays are delays up to what counts, and above it.
func someDelays() []int {
	return []int{0, 1, 24, 25, 26, 1000, last - 1, last}
}

func wantSample(t *testing.T, s State, sample, delay int, want State) {
	t.Helper()
	for range 2 { // asked twice, it answers the same
		if got, e := Sample(s, sample, delay); got != want || e != api.OK {
			t.Errorf("Sample(%v, %d, %d) is %v, %v, not %v", s, sample, delay, got, e, want)
		}
	}
}

func wantNoSample(t *testing.T, s State, sample, delay int) {
	t.Helper()
	if got, e := Sample(s, sample, delay); got != (State{}) || e != api.ErrArg {
		t.Errorf("Sample(%v, %d, %d) is %v, %v", s, sample, delay, got, e)
	}
}

func wantProbe(t *testing.T, s State, doubled, want int) {
	t.Helper()
	if got, e := Probe(s, doubled); got != want || e != api.OK {
		t.Errorf("Probe(%v, %d) is %d, %v, not %d", s, doubled, got, e, want)
	}
}

func wantLoss(t *testing.T, s State, want int) {
	t.Helper()
	if got, e := Loss(s); got != want || e != api.OK {
		t.Errorf("Loss(%v) is %d, %v, not %d", s, got, e, want)
	}
}

// estimate is what is estimated of samples, one behind the other.
func estimate(t *testing.T, l ...taken) State {
	t.Helper()
	var s State
	for _, next := range l {
		var e api.Errno
		if s, e = Sample(s, next.sample, next.delay); e != api.OK {
			t.Fatalf("sample %v: %v", next, e)
		}
	}
	return s
}

// mean is what the words say of a Smooth or a Var: so many times the old one and the new one once, over so many, rounded down.
func mean(times, old, next, over int) int {
	sum := new(big.Int).Mul(big.NewInt(int64(times)), big.NewInt(int64(old)))
	sum.Add(sum, big.NewInt(int64(next)))
	return int(sum.Div(sum, big.NewInt(int64(over))).Int64())
}

// told is the estimate with one more sample, as the words tell it.
func told(s State, next taken) State {
	if !s.Has {
		return of(next.sample, next.sample, next.sample/2, next.sample)
	}
	least := s.Least
	if next.sample < least {
		least = next.sample
	}
	counts := next.delay
	if counts > 25 {
		counts = 25
	}
	adjusted := next.sample
	if next.sample-counts >= least {
		adjusted = next.sample - counts
	}
	far := s.Smooth - adjusted
	if far < 0 {
		far = -far
	}
	return of(least, mean(7, s.Smooth, adjusted, 8), mean(3, s.Var, far, 4), next.sample)
}

// rows are rows of many samples of chance: of few ticks and of many, alike and apart.
func rows() [][]taken {
	r := rand.New(rand.NewSource(6))
	var all [][]taken
	for range 300 {
		lowest := []int{0, 0, 1, 60, 1000, last - 100, last - 1}[r.Intn(7)]
		width := min([]int{1, 2, 3, 20, 60, 1000, last}[r.Intn(7)], last-lowest)
		delays := []int{1, 3, 25, 26, 27, 60, last + 1}[r.Intn(7)]
		row := make([]taken, 1+r.Intn(200))
		for i := range row {
			row[i] = taken{lowest + r.Intn(width+1), r.Intn(delays)}
		}
		all = append(all, row)
	}
	return all
}

// overRows hands on each estimate of each row, with the samples that it has had.
func overRows(t *testing.T, look func(s State, had []taken)) {
	t.Helper()
	for _, row := range rows() {
		var s State
		for i, next := range row {
			var e api.Errno
			if s, e = Sample(s, next.sample, next.delay); e != api.OK {
				t.Fatalf("sample %v: %v", next, e)
			}
			look(s, row[:i+1])
		}
	}
}

// P6.1

func TestMaxDelay(t *testing.T) {
	if MaxDelay != 25 {
		t.Errorf("MaxDelay is %d", MaxDelay)
	}
}

func TestRight(t *testing.T) {
	for _, s := range rightStates() {
		if !Right(s) {
			t.Errorf("Right(%v) is false", s)
		}
	}
	for _, s := range wrongStates() {
		if Right(s) {
			t.Errorf("Right(%v) is true", s)
		}
	}
}

func TestFirstSample(t *testing.T) {
	cases := []struct {
		sample, vary int
	}{
		{0, 0}, {1, 0}, {2, 1}, {3, 1}, {24, 12}, {25, 12}, {100, 50}, {101, 50}, {last - 1, last/2 - 1}, {last, last / 2},
	}
	for _, c := range cases {
		for _, delay := range someDelays() { // of the first sample no delay counts
			wantSample(t, State{}, c.sample, delay, of(c.sample, c.sample, c.vary, c.sample))
		}
	}
}

func TestExampleOne(t *testing.T) {
	s := estimate(t, taken{100, 0})
	wantSample(t, s, 60, 10, of(60, 95, 47, 60))
}

func TestSample(t *testing.T) {
	half := 1 << 39
	cases := []struct {
		name          string
		s             State
		sample, delay int
		want          State
	}{
		{"less than Least", of(100, 100, 50, 100), 20, 0, of(20, 90, 57, 20)},
		{"one less than Least", of(60, 80, 8, 90), 59, 0, of(59, 77, 11, 59)},
		{"the same as Least", of(60, 80, 8, 90), 60, 0, of(60, 77, 11, 60)},
		{"one more than Least", of(60, 80, 8, 90), 61, 0, of(60, 77, 10, 61)},
		{"greater", of(60, 80, 8, 90), 120, 0, of(60, 85, 16, 120)},
		{"above Latest", of(60, 80, 8, 60), 200, 0, of(60, 95, 36, 200)},
		{"the same as Smooth", of(60, 80, 8, 90), 80, 0, of(60, 80, 6, 80)},
		{"all that is 0", of(0, 0, 0, 0), 0, 0, of(0, 0, 0, 0)},
		{"all that is 0, and a delay", of(0, 0, 0, 0), 0, last, of(0, 0, 0, 0)},
		{"0", of(100, 100, 50, 100), 0, 0, of(0, 87, 62, 0)},
		{"0, and a delay", of(100, 100, 50, 100), 0, 25, of(0, 87, 62, 0)},
		{"the last tick behind 0", of(0, 0, 0, 0), last, 0, of(0, 1<<37, 1<<38, last)},
		{"the last tick again", of(last, last, half, last), last, 0, of(last, last, 3<<37, last)},
		{"0 behind the last tick", of(last, last, half, last), 0, 0, of(0, 7<<37, 5<<37, 0)},
		{"all that is the last tick", of(last, last, last, last), last, last, of(last, last, 3<<38, last)},
		{"as far apart as can be", of(0, 0, last, 0), last, 0, of(0, 1<<37, last, last)},
		{"as far apart as can be, from above", of(0, last, last, 0), 0, 0, of(0, 7<<37, last, 0)},
		{"Smooth below the adjusted one", of(8, 8, 4, 8), 41, 1, of(8, 12, 11, 41)},
		{"Smooth above the adjusted one", of(8, 80, 4, 8), 41, 1, of(8, 75, 13, 41)},
		{"Smooth just the adjusted one", of(8, 40, 4, 8), 41, 1, of(8, 40, 3, 41)},
		{"a Smooth below Least", of(60, 10, 4, 60), 90, 25, of(60, 16, 16, 90)},
		{"Var 0 stays, one apart", of(10, 10, 0, 10), 11, 0, of(10, 10, 0, 11)},
		{"Var 0 stays, three apart", of(10, 10, 0, 10), 13, 0, of(10, 10, 0, 13)},
		{"Var 0 grows, four apart", of(10, 10, 0, 10), 14, 0, of(10, 10, 1, 14)},
		{"Var 1 goes, none apart", of(10, 10, 1, 10), 10, 0, of(10, 10, 0, 10)},
		{"Var 1 stays, one apart", of(10, 10, 1, 10), 11, 0, of(10, 10, 1, 11)},
		{"Var 1 stays, four apart", of(10, 10, 1, 10), 14, 0, of(10, 10, 1, 14)},
		{"Var 1 grows, five apart", of(10, 10, 1, 10), 15, 0, of(10, 10, 2, 15)},
		{"Smooth rounded down: seven more", of(10, 10, 0, 10), 17, 0, of(10, 10, 1, 17)},
		{"Smooth not rounded: eight more", of(10, 10, 0, 10), 18, 0, of(10, 11, 2, 18)},
		{"Smooth rounded down: one less", of(5, 10, 0, 5), 9, 0, of(5, 9, 0, 9)},
		{"Smooth not rounded: eight less", of(1, 10, 0, 5), 2, 0, of(1, 9, 2, 2)},
	}
	for _, c := range cases {
		t.Run(c.name, func(t *testing.T) { wantSample(t, c.s, c.sample, c.delay, c.want) })
	}
}

func TestDelay(t *testing.T) {
	// A Smooth of 60 and no Var: what is told tells each adjusted one from those that are four apart from it.
	s := of(60, 60, 0, 60)
	cases := []struct {
		sample, delay int
		want          State
	}{
		{160, 0, of(60, 72, 25, 160)},
		{160, 4, of(60, 72, 24, 160)},
		{160, 20, of(60, 70, 20, 160)},
		{160, 24, of(60, 69, 19, 160)},
		{160, 25, of(60, 69, 18, 160)},
		{160, 26, of(60, 69, 18, 160)},
		{160, 28, of(60, 69, 18, 160)},
		{160, 29, of(60, 69, 18, 160)},
		{160, 100, of(60, 69, 18, 160)},
		{160, last, of(60, 69, 18, 160)},
		{84, 24, of(60, 60, 0, 84)}, // just Least
		{83, 24, of(60, 62, 5, 83)}, // one less: the sample itself
		{85, 24, of(60, 60, 0, 85)}, // one more
		{85, 25, of(60, 60, 0, 85)}, // just Least
		{84, 25, of(60, 63, 6, 84)}, // one less
		{86, 25, of(60, 60, 0, 86)}, // one more
		{85, 26, of(60, 60, 0, 85)}, // just Least, since 25 of it counts
		{84, 26, of(60, 63, 6, 84)},
		{86, 26, of(60, 60, 0, 86)},
		{85, last, of(60, 60, 0, 85)},
		{84, last, of(60, 63, 6, 84)},
		{61, 1, of(60, 60, 0, 61)},
		{60, 1, of(60, 60, 0, 60)},
		{20, 1, of(20, 55, 10, 20)}, // less than Least: no delay counts, since Least is the sample then
		{20, 25, of(20, 55, 10, 20)},
		{0, 25, of(0, 52, 15, 0)},
		{last, 24, of(60, (7*60+last-24)/8, (last-84)/4, last)},
		{last, last, of(60, (7*60+last-25)/8, (last-85)/4, last)},
	}
	for _, c := range cases {
		wantSample(t, s, c.sample, c.delay, c.want)
	}
}

func TestLeastAsItIsWithTheSample(t *testing.T) {
	// A sample of 9 is Least itself, so that its delay does not count; one of 18, less 8, is just the Least that was there.
	wantSample(t, of(10, 40, 0, 10), 9, 8, of(9, 36, 7, 9))
	wantSample(t, of(10, 40, 0, 10), 10, 8, of(10, 36, 7, 10))
	wantSample(t, of(10, 40, 0, 10), 18, 8, of(10, 36, 7, 18))
}

func TestSampleRefuses(t *testing.T) {
	for _, s := range rightStates() {
		for _, n := range wrongNumbers() {
			wantNoSample(t, s, n, 0)
			wantNoSample(t, s, n, last)
			wantNoSample(t, s, 0, n)
			wantNoSample(t, s, 60, n)
			wantNoSample(t, s, last, n)
			wantNoSample(t, s, n, n)
		}
	}
	for _, s := range wrongStates() {
		wantNoSample(t, s, 0, 0)
		wantNoSample(t, s, 60, 10)
		wantNoSample(t, s, last, last)
		wantNoSample(t, s, -1, -1)
		wantNoSample(t, s, math.MaxInt, math.MinInt)
	}
}

func TestRowsOfSamples(t *testing.T) {
	for _, row := range rows() {
		var s State
		for _, next := range row {
			got, e := Sample(s, next.sample, next.delay)
			if want := told(s, next); got != want || e != api.OK {
				t.Fatalf("Sample(%v, %d, %d) is %v, %v, not %v", s, next.sample, next.delay, got, e, want)
			}
			if !Right(got) {
				t.Fatalf("Sample(%v, %d, %d) may not be: %v", s, next.sample, next.delay, got)
			}
			s = got
		}
	}
}

func TestSamplesOfAnyState(t *testing.T) {
	r := rand.New(rand.NewSource(61))
	some := func() int {
		return []int{0, 1, r.Intn(50), r.Intn(2000), r.Intn(last + 1), last - 1, last}[r.Intn(7)]
	}
	for range 50000 {
		a, b := some(), some()
		s := of(min(a, b), some(), some(), max(a, b))
		next := taken{some(), some()}
		if r.Intn(2) == 0 { // near where the delay does not count any more
			next = taken{min(last, s.Least+r.Intn(30)), r.Intn(30)}
		}
		got, e := Sample(s, next.sample, next.delay)
		if want := told(s, next); got != want || e != api.OK || !Right(got) {
			t.Fatalf("Sample(%v, %d, %d) is %v, %v, not %v", s, next.sample, next.delay, got, e, want)
		}
	}
}

func TestRefusedSampleChangesNothing(t *testing.T) {
	s := estimate(t, taken{100, 0}, taken{60, 10})
	kept := s
	for _, n := range wrongNumbers() {
		wantNoSample(t, s, n, 10)
		wantNoSample(t, s, 80, n)
	}
	if s != kept {
		t.Errorf("what was handed in is %v, not %v", s, kept)
	}
	wantSample(t, s, 80, 10, of(60, 91, 41, 80))
	if s != kept {
		t.Errorf("what was handed in is %v, not %v", s, kept)
	}
}

// P6.2

func TestProbe(t *testing.T) {
	cases := []struct {
		s       State
		doubled int
		want    int
	}{
		{State{}, 0, 125},
		{State{}, 1, 250},
		{State{}, 2, 500},
		{State{}, 10, 128000},
		{State{}, 13, 1024000},
		{State{}, 14, 1 << 20},
		{State{}, 15, 1 << 20},
		{of(0, 0, 0, 0), 0, 26}, // 1 is greater than 4 times a Var of 0
		{of(0, 0, 0, 0), 1, 52},
		{of(0, 0, 0, last), 0, 26},
		{of(0, 0, 1, 0), 0, 29},
		{of(0, 0, 2, 0), 0, 33},
		{of(60, 95, 47, 60), 0, 308},
		{of(60, 95, 47, 60), 1, 616},
		{of(60, 95, 47, 60), 2, 1232},
		{of(60, 95, 47, 60), 11, 630784},
		{of(60, 95, 47, 60), 12, 1 << 20},
		{of(0, 100, 0, last), 0, 126},
		{of(0, 7, 0, 7), 0, 33},
		{of(0, 7, 0, 7), 15, 1 << 20}, // 33 of 2^15 are more
		{of(0, 6, 0, 7), 15, 1 << 20}, // 32 of 2^15 are just as many
		{of(0, 6, 0, 7), 14, 1 << 19},
		{of(0, 5, 0, 7), 15, 31 << 15}, // 31 of 2^15 are less
		{of(0, 5, 0, 7), 16, 1 << 20},
		{of(0, 1<<20-26, 0, 0), 0, 1 << 20}, // just as many, not doubled
		{of(0, 1<<20-27, 0, 0), 0, 1<<20 - 1},
		{of(0, 1<<20-27, 0, 0), 1, 1 << 20},
		{of(0, 1<<20-25, 0, 0), 0, 1 << 20}, // one more
		{of(0, 1<<20, 0, 0), 0, 1 << 20},
		{of(0, 0, 1<<18, 0), 0, 1 << 20},
		{of(0, 0, 1<<18-7, 0), 0, 1<<20 - 3},
		{of(last, last, last, last), 0, 1 << 20},
		{of(last, last, last, last), 1, 1 << 20},
		{of(0, last, 0, last), 0, 1 << 20},
		{of(0, 0, last, last), 3, 1 << 20},
	}
	for _, c := range cases {
		wantProbe(t, c.s, c.doubled, c.want)
	}
}

func TestProbeDoubledVeryOften(t *testing.T) {
	for _, s := range rightStates() {
		for _, doubled := range []int{20, 21, 31, 32, 33, 62, 63, 64, 65, 127, 128, 1000, 1 << 32, math.MaxInt - 1, math.MaxInt} {
			wantProbe(t, s, doubled, 1<<20)
		}
	}
}

func TestLoss(t *testing.T) {
	cases := []struct {
		s    State
		want int
	}{
		{State{}, 112},          // 9 eighths of 100 are 112 and a half
		{of(0, 0, 0, 0), 1},     // at least 1
		{of(0, 0, last, 0), 1},  // no Var counts
		{of(0, 1, 0, 0), 1},     // 1 and an eighth
		{of(0, 0, 0, 1), 1},     // the latest sample is the greater one
		{of(0, 7, 0, 0), 7},     // 7 and seven eighths
		{of(0, 8, 0, 0), 9},     // just 9
		{of(0, 9, 0, 0), 10},    // 10 and an eighth
		{of(0, 0, 0, 8), 9},     // of the latest sample, too
		{of(0, 15, 0, 16), 18},  // the latest sample is the greater one
		{of(0, 16, 0, 15), 18},  // Smooth is
		{of(0, 16, 90, 16), 18}, // both are
		{of(60, 95, 47, 60), 106},
		{of(60, 60, 47, 95), 106},
		{of(0, 100, 0, 0), 112},
		{of(0, last, 0, 0), 9 << 37},
		{of(0, 0, 0, last), 9 << 37},
		{of(last, last, last, last), 9 << 37},
		{of(0, last-1, 0, 0), 9<<37 - 2},
	}
	for _, c := range cases {
		wantLoss(t, c.s, c.want)
	}
}

func TestWaitsRefuse(t *testing.T) {
	for _, s := range rightStates() {
		for _, doubled := range []int{-1, -2, -64, -last, math.MinInt} {
			if got, e := Probe(s, doubled); got != 0 || e != api.ErrArg {
				t.Errorf("Probe(%v, %d) is %d, %v", s, doubled, got, e)
			}
		}
	}
	for _, s := range wrongStates() {
		for _, doubled := range []int{-1, 0, 1, 20, math.MinInt, math.MaxInt} {
			if got, e := Probe(s, doubled); got != 0 || e != api.ErrArg {
				t.Errorf("Probe(%v, %d) is %d, %v", s, doubled, got, e)
			}
		}
		if got, e := Loss(s); got != 0 || e != api.ErrArg {
			t.Errorf("Loss(%v) is %d, %v", s, got, e)
		}
	}
}

func TestWaitsOfRows(t *testing.T) {
	overRows(t, func(s State, _ []taken) {
		vary := 4 * s.Var
		if vary == 0 {
			vary = 1
		}
		wantProbe(t, s, 0, min(s.Smooth+vary+25, 1<<20))
		greater := s.Latest
		if s.Smooth > greater {
			greater = s.Smooth
		}
		wantLoss(t, s, max(mean(8, greater, greater, 8), 1))
	})
}

// P6.3

func TestLeastOfAllSamples(t *testing.T) {
	overRows(t, func(s State, had []taken) {
		least := had[0].sample
		for _, next := range had {
			least = min(least, next.sample)
		}
		if s.Least != least || s.Latest != had[len(had)-1].sample || !s.Has {
			t.Fatalf("of %v is estimated %v", had, s)
		}
	})
}

// P6.4

func TestSamplesThatAreAllAlike(t *testing.T) {
	for _, sample := range []int{0, 1, 2, 3, 7, 8, 9, 24, 25, 26, 100, 101, 1<<20 + 1, last - 1, last} {
		s := estimate(t, taken{sample, 0})
		vary := sample / 2
		for range 200 {
			var e api.Errno
			s, e = Sample(s, sample, 0)
			vary = vary * 3 / 4
			if want := of(sample, sample, vary, sample); s != want || e != api.OK {
				t.Fatalf("%d again is %v, %v, not %v", sample, s, e, want)
			}
		}
		if s.Var != 0 {
			t.Errorf("%d ever again leaves a Var of %d", sample, s.Var)
		}
	}
}

func TestSamplesThatAreAllAlikeWithADelay(t *testing.T) {
	// Each of them is Least: no delay counts.
	for _, delay := range someDelays() {
		s := estimate(t, taken{100, delay}, taken{100, delay}, taken{100, delay})
		if s != of(100, 100, 27, 100) {
			t.Errorf("with the delay %d: %v", delay, s)
		}
	}
}

// P6.5

func TestSmoothLiesBetweenTheSamples(t *testing.T) {
	overRows(t, func(s State, had []taken) {
		least, greatest := had[0].sample, had[0].sample
		for _, next := range had {
			least, greatest = min(least, next.sample), max(greatest, next.sample)
		}
		if s.Smooth < least-1 || s.Smooth > greatest {
			t.Fatalf("of %v is estimated %v", had, s)
		}
	})
}

// P6.6

func TestWaitsDoNotFall(t *testing.T) {
	states := rightStates()
	overRows(t, func(s State, had []taken) {
		if len(had)%16 == 1 {
			states = append(states, s)
		}
	})
	for _, s := range states {
		before, e := Probe(s, 0)
		if e != api.OK {
			t.Fatalf("Probe(%v, 0): %v", s, e)
		}
		for doubled := 1; doubled < 80; doubled++ {
			wantProbe(t, s, doubled, min(2*before, 1<<20))
			before = min(2*before, 1<<20)
		}
	}
}
