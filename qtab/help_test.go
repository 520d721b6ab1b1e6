package qtab

import (
	"math"
	"strconv"
	"strings"
	"testing"

	"turnbuckle/api"
)

// widest is the greatest capacity that a table may be made for.
const widest = 4096

// told is the fixed table, as the chapter tells it.
const told = "0 `:authority`, 1 `:path` `/`, 2 `:method` `GET`, 3 `:method` `HEAD`, 4 `:method` `POST`, 5 `:method` `PUT`, 6 `:method` `DELETE`, 7 `:scheme` `https`, 8 `:scheme` `http`, 9 `:status` `200`, 10 `:status` `304`, 11 `:status` `404`, 12 `:status` `206`, 13 `:status` `504`, 14 `age` `0`, 15 `cache-control` `no-cache`, 16 `cache-control` `max-age=60`, 17 `content-length` `0`, 18 `date`, 19 `etag`, 20 `if-none-match`, 21 `last-modified`, 22 `range` `bytes=0-`, 23 `vary` `accept-encoding`"

// toldFields are the fields of the fixed table, by their numbers.
func toldFields(t *testing.T) []api.Field {
	t.Helper()
	var l []api.Field
	for n, text := range strings.Split(told, ", ") {
		number, rest, _ := strings.Cut(text, " ")
		name, value, _ := strings.Cut(rest, " ")
		if number != strconv.Itoa(n) {
			t.Fatalf("%q does not tell the field %d", text, n)
		}
		l = append(l, field(strings.Trim(name, "`"), strings.Trim(value, "`")))
	}
	return l
}

func field(name, value string) api.Field {
	return api.Field{Name: name, Value: value}
}

// sized is a field with so many bytes, and a number by which it is told from others where it has some.
func sized(name, value, n int) api.Field {
	digits := strconv.Itoa(n)
	return field(strings.Repeat("n", name), (digits + strings.Repeat(" ", max(0, value-len(digits))))[:value])
}

// roomy is a field that has so much room, from 32 to 608.
func roomy(room, n int) api.Field {
	name := min(64, (room-32)/2)
	return sized(name, room-32-name, n)
}

// noNumbers are numbers that are far from all that are.
func noNumbers() []int {
	return []int{-1, -2, -24, -32, -4096, -1 << 31, -1 << 32, math.MinInt, math.MinInt + 1, 1 << 16, 1 << 31, 1 << 32, 1<<32 + 1, 1 << 62, math.MaxInt - 1, math.MaxInt}
}

// longFields are fields that have too long a name, or too long a value.
func longFields() []api.Field {
	return []api.Field{
		sized(65, 0, 1),
		sized(0, 513, 1),
		sized(65, 512, 1),
		sized(64, 513, 1),
		sized(65, 513, 1),
		sized(66, 1, 1),
		sized(1, 514, 1),
		sized(4064, 0, 1),
		sized(0, 4064, 1),
		sized(5000, 5000, 1),
		sized(1<<16, 1<<16, 1),
	}
}

// model is a table worked out the plain way: nothing that was put in is ever forgotten.
type model struct {
	most, capacity, first int
	all                   []api.Field
}

func (m *model) used() int {
	sum := 0
	for _, f := range m.all[m.first:] {
		sum += len(f.Name) + len(f.Value) + 32
	}
	return sum
}

// settle lets fields go as the chapter tells it.
func (m *model) settle() {
	for m.used() > m.capacity {
		m.first++
	}
}

func (m *model) setCap(n int) api.Errno {
	if n < 0 || n > m.most {
		return api.ErrArg
	}
	m.capacity = n
	m.settle()
	return api.OK
}

func (m *model) insert(f api.Field) (int, api.Errno) {
	switch {
	case len(f.Name) > 64 || len(f.Value) > 512:
		return 0, api.ErrField
	case len(f.Name)+len(f.Value)+32 > m.capacity:
		return 0, api.ErrMany
	}
	m.all = append(m.all, f)
	m.settle()
	return len(m.all) - 1, api.OK
}

// find goes from the last one back to the first one that is there.
func (m *model) find(f api.Field) (int, int) {
	whole, named := -1, -1
	for n := len(m.all) - 1; n >= m.first; n-- {
		if whole < 0 && m.all[n].Name == f.Name && m.all[n].Value == f.Value {
			whole = n
		}
		if named < 0 && m.all[n].Name == f.Name {
			named = n
		}
	}
	return whole, named
}

// pair is a table with the model of it.
type pair struct {
	t *testing.T
	*Table
	m model
}

// table is one of a capacity; it may grow up to most.
func table(t *testing.T, most, capacity int) *pair {
	t.Helper()
	made, e := New(most)
	if made == nil || e != api.OK {
		t.Fatalf("New(%d) is %v, %v", most, made, e)
	}
	p := &pair{t: t, Table: made, m: model{most: most}}
	p.look()
	p.setCap(capacity)
	return p
}

// full is a table that has these fields, and no room beside them.
func full(t *testing.T, l ...api.Field) *pair {
	t.Helper()
	p := table(t, widest, widest)
	p.insertAll(l...)
	p.setCap(p.m.used())
	return p
}

// setCap sets the capacity, or asks that it is refused.
func (p *pair) setCap(n int) {
	p.t.Helper()
	if e, want := p.SetCap(n), p.m.setCap(n); e != want {
		p.t.Fatalf("SetCap(%d) of a table for %d is %v, not %v", n, p.m.most, e, want)
	}
	p.look()
}

// insert puts a field in, or asks that it is refused.
func (p *pair) insert(f api.Field) {
	p.t.Helper()
	n, e := p.Insert(f)
	want, why := p.m.insert(f)
	if n != want || e != why {
		p.t.Fatalf("Insert(%q) is %d, %v, not %d, %v", f, n, e, want, why)
	}
	p.look()
	if e == api.OK {
		p.wantLast(f)
	}
}

func (p *pair) insertAll(l ...api.Field) {
	p.t.Helper()
	for _, f := range l {
		p.insert(f)
	}
}

// wantLast asks for what was put in last, by its number and by itself (P13.6).
func (p *pair) wantLast(f api.Field) {
	p.t.Helper()
	n := p.Count() - 1
	if got, e := p.Get(n); got != f || e != api.OK {
		p.t.Fatalf("Get(%d) is %q, %v, not %q", n, got, e, f)
	}
	if whole, named := p.Find(f); whole != n || named != n {
		p.t.Fatalf("Find(%q) is %d, %d, not %d", f, whole, named, n)
	}
}

// wantRefused asks with which error a field is refused, and that nothing turns (R7).
func (p *pair) wantRefused(f api.Field, why api.Errno) {
	p.t.Helper()
	if n, e := p.Insert(f); n != 0 || e != why {
		p.t.Fatalf("Insert of a field of %d and %d bytes is %d, %v, not %v", len(f.Name), len(f.Value), n, e, why)
	}
	p.look()
}

// wantThere asks which numbers are there.
func (p *pair) wantThere(first, count int) {
	p.t.Helper()
	if p.First() != first || p.Count() != count {
		p.t.Fatalf("%d to %d are there, not %d to %d", p.First(), p.Count(), first, count)
	}
}

// look holds the table against its model, all of it (P13.4).
func (p *pair) look() {
	p.t.Helper()
	for range 2 { // asked twice, it answers the same
		if p.Cap() != p.m.capacity || p.Used() != p.m.used() || p.First() != p.m.first || p.Count() != len(p.m.all) {
			p.t.Fatalf("Cap %d, Used %d, First %d, Count %d: not %d, %d, %d, %d", p.Cap(), p.Used(), p.First(), p.Count(), p.m.capacity, p.m.used(), p.m.first, len(p.m.all))
		}
	}
	if p.Used() > p.Cap() {
		p.t.Fatalf("Used %d is above Cap %d", p.Used(), p.Cap())
	}
	p.lookAtEach()
}

// lookAtEach gets and finds what is there, and asks for some that is not.
func (p *pair) lookAtEach() {
	p.t.Helper()
	for n, f := range p.m.all {
		got, e := p.Get(n)
		if n < p.m.first && (got != api.Field{} || e != api.ErrTable) || n >= p.m.first && (got != f || e != api.OK) {
			p.t.Fatalf("Get(%d) is %q, %v, where %q came, and %d is the first", n, got, e, f, p.m.first)
		}
		p.wantFound(f)
		p.wantFound(field(f.Name, f.Value+"?"))
	}
	count := len(p.m.all)
	for _, n := range append(noNumbers(), count, count+1, count+widest/32) {
		if got, e := p.Get(n); got != (api.Field{}) || e != api.ErrTable {
			p.t.Fatalf("Get(%d) of %d is %q, %v", n, count, got, e)
		}
	}
	for _, f := range strangers() {
		p.wantFound(f)
	}
}

// wantFound asks what is found.
func (p *pair) wantFound(f api.Field) {
	p.t.Helper()
	whole, named := p.Find(f)
	if wantWhole, wantNamed := p.m.find(f); whole != wantWhole || named != wantNamed {
		p.t.Fatalf("Find(%q) is %d, %d, not %d, %d", f, whole, named, wantWhole, wantNamed)
	}
}

// strangers are fields that mostly were never put in.
func strangers() []api.Field {
	return []api.Field{
		field("", ""), field("", "a"), field("a", ""), field("b", "a"), field("ab", ""), field("A", "b"),
		field(":path", "/"), field("never", "there"), sized(64, 512, 1), sized(65, 513, 1),
	}
}
