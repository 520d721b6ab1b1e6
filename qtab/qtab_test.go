package qtab

import (
	"slices"
	"strings"
	"testing"

	"turnbuckle/api"
)

func TestTheChaptersExample(t *testing.T) {
	p := table(t, widest, 70)
	p.insert(field("a", "b"))
	p.insert(field("c", "d"))
	if p.Used() != 68 {
		t.Errorf("Used is %d", p.Used())
	}
	p.wantThere(0, 2)
	p.insert(field("e", "f"))
	p.wantThere(1, 3)
	if f, e := p.Get(0); f != (api.Field{}) || e != api.ErrTable {
		t.Errorf("Get(0) is %q, %v", f, e)
	}
	if f, e := p.Get(1); f != field("c", "d") || e != api.OK {
		t.Errorf("Get(1) is %q, %v", f, e)
	}
}

// P13.1

func TestFixed(t *testing.T) {
	l := toldFields(t)
	if len(l) != 24 {
		t.Fatalf("%d fields are told", len(l))
	}
	for n, want := range l {
		if f, e := Fixed(n); f != want || e != api.OK {
			t.Errorf("Fixed(%d) is %q, %v, not %q", n, f, e, want)
		}
	}
	for _, n := range append(noNumbers(), 24, 25, 48, 255, 256, 1<<32+9) {
		if f, e := Fixed(n); f != (api.Field{}) || e != api.ErrTable {
			t.Errorf("Fixed(%d) is %q, %v", n, f, e)
		}
	}
}

func wantFixed(t *testing.T, f api.Field, whole, named int) {
	t.Helper()
	for range 2 {
		if x, y := FindFixed(f); x != whole || y != named {
			t.Errorf("FindFixed(%q) is %d, %d, not %d, %d", f, x, y, whole, named)
		}
	}
}

func TestFindFixed(t *testing.T) {
	first := map[string]int{}
	for n, f := range toldFields(t) {
		if _, is := first[f.Name]; !is {
			first[f.Name] = n
		}
		named := first[f.Name]
		wantFixed(t, f, n, named)
		wantFixed(t, field(f.Name, f.Value+" "), -1, named)
		wantFixed(t, field(f.Name, " "+f.Value), -1, named)
		wantFixed(t, field(f.Name, "another"), -1, named)
		wantFixed(t, field(f.Name+"s", f.Value), -1, -1)
		wantFixed(t, field(f.Name[1:], f.Value), -1, -1)
		wantFixed(t, field(strings.ToUpper(f.Name), f.Value), -1, -1)
		wantFixed(t, field(f.Value, f.Name), -1, -1)
	}
}

func TestFindFixedByName(t *testing.T) {
	for _, x := range []struct {
		f            api.Field
		whole, named int
	}{
		{field(":authority", ""), 0, 0},
		{field(":authority", "a.example"), -1, 0},
		{field(":path", ""), -1, 1},
		{field(":method", "DELETE"), 6, 2},
		{field(":method", "PATCH"), -1, 2},
		{field(":method", ""), -1, 2},
		{field(":scheme", "http"), 8, 7},
		{field(":scheme", "ftp"), -1, 7},
		{field(":status", "504"), 13, 9},
		{field(":status", "206"), 12, 9},
		{field(":status", "500"), -1, 9},
		{field("age", "1"), -1, 14},
		{field("cache-control", "max-age=60"), 16, 15},
		{field("cache-control", "max-age=61"), -1, 15},
		{field("date", ""), 18, 18},
		{field("vary", "accept-encoding"), 23, 23},
		{field("vary", ""), -1, 23},
		{field("", ""), -1, -1},
		{field("", "/"), -1, -1},
		{field("content-type", ""), -1, -1},
		{field("x", "200"), -1, -1},
		{field("range\x00", "bytes=0-"), -1, -1},
		{field("ag", "e0"), -1, -1},
		{sized(65, 513, 1), -1, -1},
	} {
		wantFixed(t, x.f, x.whole, x.named)
	}
}

func TestRoom(t *testing.T) {
	for _, x := range []struct {
		f    api.Field
		room int
	}{
		{field("", ""), 32},
		{field("a", ""), 33},
		{field("", "a"), 33},
		{field("a", "b"), 34},
		{field(":authority", ""), 42},
		{field("\u00e9", "\xFF\x00"), 36},
		{sized(64, 512, 1), 608},
		{sized(65, 513, 1), 610},
		{sized(0, 4064, 1), 4096},
		{sized(1<<16, 1<<20, 1), 1<<16 + 1<<20 + 32},
	} {
		if room := Room(x.f); room != x.room {
			t.Errorf("Room of %d and %d bytes is %d, not %d", len(x.f.Name), len(x.f.Value), room, x.room)
		}
	}
}

// P13.2

func TestNew(t *testing.T) {
	for _, most := range []int{0, 1, 31, 32, 33, 70, 4095, 4096} {
		table(t, most, 0).wantThere(0, 0)
	}
	for _, most := range append(noNumbers(), 4097, 4098, 8192) {
		if made, e := New(most); made != nil || e != api.ErrArg {
			t.Errorf("New(%d) is %v, %v", most, made, e)
		}
	}
}

func TestCapacityIsNothingAtFirst(t *testing.T) {
	p := table(t, widest, 0)
	for _, f := range []api.Field{{}, field("a", "b"), sized(64, 512, 1)} {
		p.wantRefused(f, api.ErrMany)
	}
	p.setCap(32)
	p.insert(api.Field{})
}

func TestSetCap(t *testing.T) {
	for _, most := range []int{0, 1, 34, 70, 4095, 4096} {
		p := table(t, most, 0)
		for _, n := range append(noNumbers(), 0, 1, most-1, most, most+1, most+2, widest, widest+1) {
			p.setCap(n)
			p.insert(field("a", "b"))
		}
	}
}

func TestSetCapUpLetsNothingGo(t *testing.T) {
	p := full(t, roomy(40, 0), roomy(50, 1), roomy(60, 2))
	for n := 150; n <= 200; n++ {
		p.setCap(n)
		p.wantThere(0, 3)
	}
	p.setCap(widest)
	p.setCap(widest)
	p.wantThere(0, 3)
}

// Fields of 40, 50 and 60: of each capacity which are left (P13.5).
func TestSetCapDown(t *testing.T) {
	for n := 200; n >= 0; n-- {
		p := full(t, roomy(40, 0), roomy(50, 1), roomy(60, 2))
		p.setCap(200)
		p.setCap(n)
		first := 3
		switch {
		case n >= 150:
			first = 0
		case n >= 110:
			first = 1
		case n >= 60:
			first = 2
		}
		p.wantThere(first, 3)
		p.setCap(200) // what went stays away
		p.wantThere(first, 3)
	}
}

func TestSetCapStepByStep(t *testing.T) {
	p := full(t, roomy(40, 0), roomy(50, 1), roomy(60, 2), roomy(32, 3))
	for n := 182; n >= 0; n-- {
		p.setCap(n)
	}
	p.wantThere(4, 4)
	if p.Used() != 0 {
		t.Errorf("Used is %d", p.Used())
	}
}

func TestWrongCapacitiesTurnNothing(t *testing.T) {
	p := table(t, 150, 150)
	p.insertAll(roomy(40, 0), roomy(50, 1), roomy(60, 2), roomy(50, 3))
	for _, n := range append(noNumbers(), 151, 152, widest, widest+1) {
		if e := p.SetCap(n); e != api.ErrArg {
			t.Errorf("SetCap(%d) is %v", n, e)
		}
		p.look()
	}
	p.wantThere(2, 4)
}

func TestInsertOfLongTexts(t *testing.T) {
	p := table(t, widest, widest)
	p.insertAll(sized(64, 0, 1), sized(64, 512, 2), sized(0, 512, 3), sized(63, 511, 4))
	p.wantThere(0, 4)
	for _, f := range longFields() {
		p.wantRefused(f, api.ErrField)
	}
}

// A text that is too long is told ahead of a room that is missing.
func TestWhichErrorOfInsert(t *testing.T) {
	for _, capacity := range []int{0, 31, 32, 96, 97, 544, 545, 608, 609, 610} {
		p := table(t, widest, capacity)
		for _, f := range longFields() {
			p.wantRefused(f, api.ErrField)
		}
	}
	table(t, widest, 607).wantRefused(sized(64, 512, 1), api.ErrMany)
	table(t, widest, 608).insert(sized(64, 512, 1))
	table(t, widest, 95).wantRefused(sized(64, 0, 1), api.ErrMany)
	table(t, widest, 96).insert(sized(64, 0, 1))
	table(t, widest, 543).wantRefused(sized(0, 512, 1), api.ErrMany)
	table(t, widest, 544).insert(sized(0, 512, 1))
}

// A field has room as long as it alone has no more than the capacity, whatever stands there.
func TestInsertNextToTheCapacity(t *testing.T) {
	for _, capacity := range []int{32, 33, 34, 70, 100, 608} {
		for _, some := range [][]api.Field{
			nil,
			{roomy(32, 0)},
			{roomy(capacity, 0)},
			{roomy(max(32, capacity-1), 0)},
			{roomy(max(32, capacity/2), 0), roomy(max(32, capacity-capacity/2), 1)},
		} {
			for room := max(32, capacity-1); room <= min(608, capacity+1); room++ {
				p := table(t, widest, capacity)
				p.insertAll(some...)
				first, count := p.First(), p.Count()
				if room > capacity {
					p.wantRefused(roomy(room, 9), api.ErrMany)
					p.wantThere(first, count)
					continue
				}
				p.insert(roomy(room, 9))
				if room > capacity-32 {
					p.wantThere(count, count+1)
				}
			}
		}
	}
}

// A table with 40, 50 and 60, and so much room beside them: of a field's room how many must go (P13.5).
func TestInsertLetsNoMoreGoThanMust(t *testing.T) {
	for _, beside := range []int{0, 1, 31, 32, 33, 39, 40, 41, 59} {
		for room := 32; room <= 150+beside; room++ {
			p := full(t, roomy(40, 0), roomy(50, 1), roomy(60, 2))
			p.setCap(150 + beside)
			p.insert(roomy(room, 3))
			first := 3
			switch {
			case room <= beside:
				first = 0
			case room <= beside+40:
				first = 1
			case room <= beside+90:
				first = 2
			}
			p.wantThere(first, 4)
		}
	}
}

func TestInsertIntoAFullTable(t *testing.T) {
	p := full(t, field("a", "b"), field("c", "d"), field("e", "f"))
	p.insert(field("g", "h"))
	p.wantThere(1, 4)
	p.insert(field("", "")) // two bytes less than what goes
	p.wantThere(2, 5)
	p.insert(field("ij", "kl")) // just what is left beside what must go
	p.wantThere(3, 6)
}

func TestInsertIntoATableFullByOneByte(t *testing.T) {
	p := full(t, field("a", "b"), field("c", "d"))
	p.setCap(p.Used() + 33)
	p.insert(field("e", ""))
	p.wantThere(0, 3)
	p = full(t, field("a", "b"), field("c", "d"))
	p.setCap(p.Used() + 33)
	p.insert(field("e", "f")) // one byte is missing
	p.wantThere(1, 3)
	p = full(t, field("a", "b"), field("c", "d"))
	p.setCap(p.Used() - 1)
	p.wantThere(1, 2)
}

func TestNumbersGoOn(t *testing.T) {
	p := table(t, widest, 34)
	for n := range 300 {
		p.insert(field(string(rune('a'+n%26)), string(rune('a'+n/26))))
		p.wantThere(n, n+1)
	}
	p.setCap(0)
	p.wantThere(300, 300)
	p.setCap(widest)
	p.insert(field("x", "y"))
	p.wantThere(300, 301)
	p.wantRefused(sized(65, 0, 1), api.ErrField)
	p.insert(field("x", "z"))
	p.wantThere(300, 302)
}

func TestTheGreatestTable(t *testing.T) {
	p := table(t, widest, widest)
	for range 128 {
		p.insert(api.Field{})
	}
	if p.Used() != widest {
		t.Errorf("Used is %d", p.Used())
	}
	p.wantThere(0, 128)
	p.insert(api.Field{})
	p.wantThere(1, 129)
	p.insert(sized(64, 512, 1)) // 19 fields of 32
	p.wantThere(20, 130)
	p.setCap(608)
	p.wantThere(129, 130)
}

// P13.3

func wantGet(t *testing.T, p *pair, n int, want api.Field, why api.Errno) {
	t.Helper()
	if f, e := p.Get(n); f != want || e != why {
		t.Errorf("Get(%d) is %q, %v, not %q, %v", n, f, e, want, why)
	}
}

func TestGet(t *testing.T) {
	p := table(t, widest, 102)
	wantGet(t, p, 0, api.Field{}, api.ErrTable)
	p.insertAll(field("a", "b"), field("c", "d"), field("e", "f"), field("g", "h"), field("i", "j"))
	for n, want := range []api.Field{{}, {}, field("e", "f"), field("g", "h"), field("i", "j"), {}, {}} {
		why := api.ErrTable
		if want.Name != "" {
			why = api.OK
		}
		wantGet(t, p, n, want, why)
	}
	for _, n := range noNumbers() {
		wantGet(t, p, n, api.Field{}, api.ErrTable)
	}
	p.setCap(0)
	for n := range 7 {
		wantGet(t, p, n, api.Field{}, api.ErrTable)
	}
}

func TestGetOfAnEmptyField(t *testing.T) {
	p := table(t, widest, widest)
	p.insertAll(api.Field{}, field("", "v"), field("n", ""))
	wantGet(t, p, 0, api.Field{}, api.OK)
	wantGet(t, p, 1, field("", "v"), api.OK)
	wantGet(t, p, 2, field("n", ""), api.OK)
}

func wantFound(t *testing.T, p *pair, f api.Field, whole, named int) {
	t.Helper()
	if x, y := p.Find(f); x != whole || y != named {
		t.Errorf("Find(%q) is %d, %d, not %d, %d", f, x, y, whole, named)
	}
}

func TestFind(t *testing.T) {
	p := table(t, widest, 34*4)
	ab, ac, bb := field("a", "b"), field("a", "c"), field("b", "b")
	wantFound(t, p, ab, -1, -1)
	p.insert(ab)
	wantFound(t, p, ab, 0, 0)
	wantFound(t, p, ac, -1, 0)
	wantFound(t, p, bb, -1, -1)
	p.insertAll(ab, ac)
	wantFound(t, p, ab, 1, 2)
	wantFound(t, p, ac, 2, 2)
	wantFound(t, p, field("a", ""), -1, 2)
	wantFound(t, p, field("", "b"), -1, -1)
	p.insert(bb)
	wantFound(t, p, ab, 1, 2)
	wantFound(t, p, bb, 3, 3)
	p.insert(bb) // the first ab goes
	wantFound(t, p, ab, 1, 2)
	p.insert(bb) // the second one, too
	wantFound(t, p, ab, -1, 2)
	wantFound(t, p, ac, 2, 2)
	p.insert(bb)
	wantFound(t, p, ab, -1, -1)
	wantFound(t, p, ac, -1, -1)
	wantFound(t, p, bb, 6, 6)
	p.insert(ab)
	wantFound(t, p, ab, 7, 7)
	p.setCap(34)
	wantFound(t, p, ab, 7, 7)
	wantFound(t, p, bb, -1, -1)
	p.setCap(0)
	wantFound(t, p, ab, -1, -1)
}

// A field is another one where the same bytes are parted otherwise, or one letter is large.
func TestFindHoldsWholeFields(t *testing.T) {
	p := table(t, widest, widest)
	l := []api.Field{field("ab", "c"), field("a", "bc"), field("", "abc"), field("abc", ""), field("A", "bc"), field("a", "BC"), field("a\x00", "bc"), field("a", "bc\xFF")}
	p.insertAll(l...)
	for n, f := range l {
		if whole, _ := p.Find(f); whole != n {
			t.Errorf("Find(%q) is %d, not %d", f, whole, n)
		}
	}
	wantFound(t, p, field("a", "b"), -1, 7)
}

// The fixed table's fields are not a growing one's.
func TestFixedFieldsAreNotInAGrowingTable(t *testing.T) {
	p := table(t, widest, widest)
	for n, f := range toldFields(t) {
		if whole, _ := p.Find(f); whole != -1 {
			t.Fatalf("Find(%q) is %d", f, whole)
		}
		p.insert(f)
		p.wantThere(0, n+1)
	}
	p.insert(field(":path", "/x"))
	wantFixed(t, field(":path", "/x"), -1, 1)
	if f, e := Fixed(24); f != (api.Field{}) || e != api.ErrTable {
		t.Errorf("Fixed(24) is %q, %v", f, e)
	}
}

func TestAnEmptiedTable(t *testing.T) {
	p := full(t, field("a", "b"), field("c", "d"))
	p.setCap(33)
	p.wantThere(2, 2)
	if p.Used() != 0 || p.Cap() != 33 {
		t.Errorf("Used is %d, and Cap %d", p.Used(), p.Cap())
	}
	p.wantRefused(field("e", "f"), api.ErrMany)
	p.wantThere(2, 2)
	p.insert(field("e", ""))
	p.wantThere(2, 3)
}

func TestTablesThatNewDidNotGive(t *testing.T) {
	var made Table
	for _, x := range []*Table{nil, &made, {}, new(Table)} {
		for range 2 {
			for _, n := range append(noNumbers(), 0, 1, 34, 4096, 4097) {
				if e := x.SetCap(n); e != api.ErrNil {
					t.Errorf("SetCap(%d) is %v", n, e)
				}
				if f, e := x.Get(n); f != (api.Field{}) || e != api.ErrNil {
					t.Errorf("Get(%d) is %q, %v", n, f, e)
				}
			}
			for _, f := range slices.Concat(longFields(), strangers(), toldFields(t)) {
				if n, e := x.Insert(f); n != 0 || e != api.ErrNil {
					t.Errorf("Insert is %d, %v", n, e)
				}
				if whole, named := x.Find(f); whole != -1 || named != -1 {
					t.Errorf("Find is %d, %d", whole, named)
				}
			}
			if x.Cap() != 0 || x.Used() != 0 || x.First() != 0 || x.Count() != 0 {
				t.Errorf("Cap %d, Used %d, First %d, Count %d", x.Cap(), x.Used(), x.First(), x.Count())
			}
		}
	}
}
