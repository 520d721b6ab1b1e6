package qtab

import (
	"math/rand"
	"runtime"
	"strings"
	"testing"

	"turnbuckle/api"
)

// anyField is a field of few names and values, so that many come again.
func anyField(r *rand.Rand) api.Field {
	f := field(strings.Repeat("n", r.Intn(4)), strings.Repeat("v", r.Intn(4)))
	switch r.Intn(8) {
	case 0:
		f.Value += strings.Repeat("w", r.Intn(200))
	case 1:
		f = sized(r.Intn(70), r.Intn(530), r.Intn(3))
	case 2:
		f, _ = Fixed(r.Intn(24))
	}
	return f
}

// P13.4 to P13.6: whatever is called, in any order, a table is what its model is behind each call.
func TestRowsOfCalls(t *testing.T) {
	r := rand.New(rand.NewSource(13))
	for range 300 {
		most := []int{r.Intn(40), r.Intn(200), r.Intn(widest + 1), widest}[r.Intn(4)]
		p := table(t, most, r.Intn(most+1))
		for range r.Intn(80) {
			switch r.Intn(8) {
			case 0:
				p.setCap(r.Intn(most+40) - 20)
			case 1:
				p.setCap(most)
			default:
				p.insert(anyField(r))
			}
		}
	}
}

// Fields go in the order in which they came, and only where the one that came, or the capacity, leaves them no room (P13.5).
func TestFieldsGoInOrder(t *testing.T) {
	r := rand.New(rand.NewSource(5))
	made, _ := New(widest)
	made.SetCap(widest)
	for range 5000 {
		first, count := made.First(), made.Count()
		var rooms []int
		for n := first; n < count; n++ {
			f, _ := made.Get(n)
			rooms = append(rooms, Room(f))
		}
		room, used := 0, made.Used()
		if r.Intn(20) > 0 {
			f := anyField(r)
			if _, e := made.Insert(f); e == api.OK {
				room = Room(f)
			}
		} else {
			made.SetCap(r.Intn(widest + 1))
		}
		gone := made.First() - first
		for i := range gone {
			if used+room <= made.Cap() {
				t.Fatalf("%d went, %d of them too early", gone, gone-i)
			}
			used -= rooms[i]
		}
		if made.Used() != used+room || made.Used() > made.Cap() {
			t.Fatalf("Used is %d of %d, not %d", made.Used(), made.Cap(), used+room)
		}
	}
}

// R4 and R7

func TestTwoTablesShareNothing(t *testing.T) {
	r := rand.New(rand.NewSource(2))
	one, other := table(t, widest, 200), table(t, 300, 300)
	for range 300 {
		p := []*pair{one, other}[r.Intn(2)]
		if r.Intn(10) == 0 {
			p.setCap(r.Intn(301))
		} else {
			p.insert(anyField(r))
		}
		one.look()
		other.look()
	}
}

func TestWhatIsRefusedTurnsNothing(t *testing.T) {
	p := full(t, field("a", "b"), field("c", "d"), field("e", "f"))
	for range 3 {
		for _, f := range longFields() {
			p.wantRefused(f, api.ErrField)
		}
		for room := 103; room <= 608; room++ {
			p.wantRefused(roomy(room, 1), api.ErrMany)
		}
		for _, n := range append(noNumbers(), widest+1) {
			if e := p.SetCap(n); e != api.ErrArg {
				t.Fatalf("SetCap(%d) is %v", n, e)
			}
			p.look()
		}
	}
	p.wantThere(0, 3)
	p.insert(field("g", "h"))
	p.wantThere(1, 4)
}

// What was put in is no piece of a longer text that was handed in: that one is not kept.
func TestLongTextsAreNotKept(t *testing.T) {
	made, _ := New(widest)
	made.SetCap(widest)
	before := inUse()
	for n := range 32 {
		long := strings.Repeat(string(rune('A'+n)), 1<<21)
		if got, e := made.Insert(field(long[:4], long[4:9])); got != n || e != api.OK {
			t.Fatal(got, e)
		}
	}
	if after := inUse(); after > before+1<<24 {
		t.Errorf("a table of %d bytes keeps %d", made.Used(), after-before)
	}
	if f, e := made.Get(25); f != field("ZZZZ", "ZZZZZ") || e != api.OK {
		t.Errorf("Get(25) is %q, %v", f, e)
	}
}

// inUse is how many bytes of memory are in use.
func inUse() uint64 {
	runtime.GC()
	var m runtime.MemStats
	runtime.ReadMemStats(&m)
	return m.HeapAlloc
}

// What was answered may be written over, and turns nothing.
func TestWhatIsAnsweredIsTheCallers(t *testing.T) {
	p := table(t, widest, widest)
	p.insertAll(field("a", "b"), field("c", "d"))
	for n := range 2 {
		f, _ := p.Get(n)
		f.Name, f.Value = "other", "other"
		p.look()
	}
	for n, want := range toldFields(t) {
		f, _ := Fixed(n)
		f.Name, f.Value = "other", "other"
		if f, _ := Fixed(n); f != want {
			t.Fatalf("Fixed(%d) is %q", n, f)
		}
	}
}

// The same calls on two tables have the same answers (R3).
func TestTheSameCallsAnswerTheSame(t *testing.T) {
	one, _ := New(500)
	other, _ := New(500)
	r, same := rand.New(rand.NewSource(3)), rand.New(rand.NewSource(3))
	for range 500 {
		a, b := r.Intn(501), same.Intn(501)
		if a < 100 && one.SetCap(a) != other.SetCap(b) {
			t.Fatalf("SetCap(%d) is not the same", a)
		}
		f, g := anyField(r), anyField(same)
		n, e := one.Insert(f)
		m, why := other.Insert(g)
		if n != m || e != why || one.Used() != other.Used() || one.First() != other.First() {
			t.Fatalf("Insert(%q) is %d, %v and %d, %v", f, n, e, m, why)
		}
		one.SetCap(500 - n%100)
		other.SetCap(500 - m%100)
	}
}
