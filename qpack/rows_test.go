package qpack

import (
	"bytes"
	"math/rand"
	"runtime"
	"slices"
	"strings"
	"testing"

	"turnbuckle/api"
)

// anyText is a text of few others, so that many come again.
func anyText(r *rand.Rand, most int) string {
	switch r.Intn(10) {
	case 0:
		return strings.Repeat("x", r.Intn(most+1))
	case 1:
		b := make([]byte, r.Intn(9))
		r.Read(b)
		return string(b)
	}
	return []string{"", "a", "b", "age", "name", ":path", "a longer name", "etag", "0", "/"}[r.Intn(10)]
}

func anyField(r *rand.Rand) api.Field {
	if r.Intn(4) == 0 {
		return fixedTable()[r.Intn(24)]
	}
	return field(anyText(r, 64), anyText(r, 512))
}

func anyList(r *rand.Rand) []api.Field {
	l := make([]api.Field, r.Intn([]int{4, 10, 65}[r.Intn(3)]))
	for n := range l {
		l[n] = anyField(r)
	}
	return l
}

// P14.5: every list is decoded to the fields that were told, over long runs of lists.
func TestRunsOfLists(t *testing.T) {
	r := rand.New(rand.NewSource(14))
	for range 60 {
		most := []int{r.Intn(100), r.Intn(600), r.Intn(widest + 1), widest}[r.Intn(4)]
		k := talker(t, most, r.Intn(most+1))
		var last []api.Field
		for range 1 + r.Intn(40) {
			switch r.Intn(6) {
			case 0:
				k.setCap(r.Intn(most + 1))
			case 1:
				k.setCap(most)
			case 2:
				k.tell(last, true)
			default:
				last = anyList(r)
				k.tell(last, r.Intn(4) > 0)
			}
		}
	}
}

// What was told so far may come late, and all at once: the last section is decoded then, and no matter how often (P14.5, P14.6).
func TestInstructionsThatComeLate(t *testing.T) {
	r := rand.New(rand.NewSource(6))
	for range 60 {
		k := talker(t, widest, r.Intn(700))
		late := decoder(t, widest, k.m.capacity)
		var queued []byte
		for range 30 {
			l := anyList(r)
			instructions, b := k.tell(l, true)
			queued = append(queued, instructions...)
			if need := int((&slow{b: b}).num(8).Int64()); need > late.Count() {
				late.fails(b, api.ErrWait, 0)
			}
			if r.Intn(3) == 0 {
				late.fed(queued)
				late.tells(b, l...)
				queued = nil
			}
		}
	}
}

// anyNum is a number, mostly a small one.
func anyNum(r *rand.Rand, first, bits int) []byte {
	switch r.Intn(30) {
	case 0:
		return badNums(first, bits)[r.Intn(3)]
	case 1:
		return num(first, bits, int(r.Int63()>>1)>>r.Intn(62))
	case 2:
		return longNum(first, bits, 1<<bits-1+r.Intn(4))
	}
	return num(first, bits, r.Intn(6))
}

// anyTold is a text in bytes, mostly a right one.
func anyTold(r *rand.Rand, first, bits, most int) []byte {
	if r.Intn(30) == 0 {
		return badTexts(first, bits)[r.Intn(7)]
	}
	text := anyText(r, most)
	if r.Intn(30) == 0 {
		text = strings.Repeat("y", most+r.Intn(3))
	}
	return texters()[r.Intn(2)](first, bits, text)
}

func anyIns(r *rand.Rand) []byte {
	switch r.Intn(9) {
	case 0:
		return capIns(r.Intn(700))
	case 1:
		return anyNum(r, 0x20, 5)
	case 2, 3:
		return anyNum(r, 0x00, 5)
	case 4:
		return join(anyNum(r, 0xC0, 6), anyTold(r, 0, 8, 512))
	case 5, 6:
		return join(anyNum(r, 0x80, 6), anyTold(r, 0, 8, 512))
	}
	return join(anyTold(r, 0x40, 6, 64), anyTold(r, 0, 8, 512))
}

func anyLine(r *rand.Rand) []byte {
	never := r.Intn(2)
	switch r.Intn(7) {
	case 0:
		return anyNum(r, 0xC0, 6)
	case 1:
		return anyNum(r, 0x80, 6)
	case 2:
		return anyNum(r, 0x10, 4)
	case 3:
		return join(anyNum(r, 0x50+never*0x20, 4), anyTold(r, 0, 8, 512))
	case 4:
		return join(anyNum(r, 0x40+never*0x20, 4), anyTold(r, 0, 8, 512))
	case 5:
		return join(anyNum(r, never*0x08, 3), anyTold(r, 0, 8, 512))
	}
	return join(anyTold(r, 0x20+never*0x10, 4, 64), anyTold(r, 0, 8, 512))
}

// anySection needs what has come or a little less, most often.
func anySection(r *rand.Rand, count int) []byte {
	b := num(0, 8, max(0, count+1-r.Intn(5)))
	if r.Intn(20) == 0 {
		b = anyNum(r, 0, 8)
	}
	b = append(b, anyNum(r, 0x80*r.Intn(2), 7)...)
	for range r.Intn([]int{3, 10, 70}[r.Intn(3)]) {
		b = append(b, anyLine(r)...)
	}
	return b
}

// turned has a byte or two that are others, or is cut.
func turned(r *rand.Rand, b []byte) []byte {
	b = bytes.Clone(b)
	for range r.Intn(3) {
		if len(b) > 0 {
			b[r.Intn(len(b))] = byte(r.Intn(256))
		}
	}
	if r.Intn(4) == 0 {
		b = b[:r.Intn(len(b)+1)]
	}
	return b
}

// Whatever is fed and decoded, a decoder does what its model does.
func TestRowsOfCalls(t *testing.T) {
	r := rand.New(rand.NewSource(9204))
	for range 300 {
		most := []int{r.Intn(100), r.Intn(700), widest}[r.Intn(3)]
		p := decoder(t, most, r.Intn(most+1))
		for range 20 {
			var b []byte
			for range r.Intn(5) {
				b = append(b, anyIns(r)...)
			}
			p.same(turned(r, b))
			for range 5 {
				p.sameSection(turned(r, anySection(r, len(p.m.all))))
			}
		}
	}
}

func TestRowsOfBytes(t *testing.T) {
	r := rand.New(rand.NewSource(3))
	for range 2000 {
		p := decoder(t, widest, 200, putIns(field("a", "b"), field("c", "d")))
		b := make([]byte, r.Intn(12))
		r.Read(b)
		p.same(b)
		for range 20 {
			r.Read(b)
			p.sameSection(b)
			p.sameSection(join([]byte{2}, b))
			p.sameSection(join([]byte{2, byte(r.Intn(3))}, b))
		}
	}
}

// All beginnings of two bytes, and all of a line behind a beginning.
func TestAllRowsOfTwoBytes(t *testing.T) {
	p := abc(t)
	for n := range 1 << 16 {
		b := []byte{byte(n >> 8), byte(n)}
		p.sameSection(b)
		p.sameSection(join(startLess(6, 1), b))
	}
}

// P14.7: what goes wrong turns nothing of the table; what is decoded never does.
func TestWhatGoesWrongTurnsNothing(t *testing.T) {
	r := rand.New(rand.NewSource(7))
	one, other := decoder(t, widest, 400), decoder(t, widest, 400)
	for range 1500 {
		b := turned(r, anyIns(r))
		before := one.m
		if fault := one.same(b); fault.Why == api.OK {
			other.fed(b)
		} else if fault.At == 0 && (one.m.capacity != before.capacity || one.m.first != before.first || len(one.m.all) != len(before.all)) {
			t.Fatalf("%x is %v, and turned something", b, fault)
		} else {
			other.fed(b[:fault.At])
		}
		one.sameSection(turned(r, anySection(r, one.Count())))
		if one.m.first != other.m.first || !slices.Equal(one.m.all, other.m.all) {
			t.Fatalf("behind %x there are %q, not %q", b, one.m.all, other.m.all)
		}
	}
}

// R4

// What is handed in, and the room behind it, is neither turned nor kept, and what is answered is the caller's.
func TestBytesThatAreHandedIn(t *testing.T) {
	for _, text := range texters() {
		p := decoder(t, widest, widest)
		room := join(toldIns(text, "name", "value"), fixedIns(1, text, "/a"), growIns(0, text, "/b"), bytes.Repeat([]byte{0xEE}, 100))
		b := room[:len(room)-100]
		before := bytes.Clone(room)
		p.fed(b)
		if !bytes.Equal(room, before) {
			t.Fatalf("Feed turned %x to %x", before, room)
		}
		clear(room)
		p.table(0, field("name", "value"), field(":path", "/a"), field(":path", "/b"))

		room = join(start(3, 0), aheadLine(2), toldLine(0, text, "n", "v"), fixedLine(17), bytes.Repeat([]byte{0xEE}, 100))
		b = room[:len(room)-100]
		before = bytes.Clone(room)
		want := []api.Field{field("name", "value"), field("n", "v"), field("content-length", "0")}
		l, fault := p.Decode(b)
		if !slices.Equal(l, want) || fault != (api.Fault{}) || !bytes.Equal(room, before) {
			t.Fatalf("Decode(%x) is %q, %v, and turned it to %x", before, l, fault, room)
		}
		again, _ := p.Decode(b)
		clear(room)
		clear(l[:cap(l)])
		if !slices.Equal(again, want) {
			t.Fatalf("%q was written over", again)
		}
		p.look()
		p.tells(before[:len(before)-100], want...)
	}
}

func TestFieldsThatAreHandedIn(t *testing.T) {
	r, same := rand.New(rand.NewSource(4)), rand.New(rand.NewSource(4))
	one, other := talker(t, widest, 300), talker(t, widest, 300)
	for n := range 200 {
		put := n%4 > 0
		l := append(anyList(r), sized(9, 9), sized(9, 9))
		room := slices.Clone(l)
		instructions, b := one.tell(room[:len(l)-2], put)
		if !slices.Equal(room, l) {
			t.Fatalf("Encode turned %q to %q", l, room)
		}
		clear(room)
		again, as := other.tell(anyList(same), put)
		if !bytes.Equal(instructions, again) || !bytes.Equal(b, as) {
			t.Fatalf("%q are %x, %x, and %x, %x", l, instructions, b, again, as)
		}
		// Each of what is answered is written over, with the room behind it.
		kept := bytes.Clone(b)
		clear(instructions[:cap(instructions)])
		if !bytes.Equal(b, kept) {
			t.Fatalf("the instructions and the section share %x", b)
		}
		clear(b[:cap(b)])
		told, _ := one.e.SetCap(300)
		clear(told[:cap(told)])
		other.e.SetCap(300)
	}
}

// Two of a kind share nothing.
func TestTwoShareNothing(t *testing.T) {
	r := rand.New(rand.NewSource(2))
	one, other := talker(t, widest, 150), talker(t, 300, 300)
	for range 100 {
		k := []*talk{one, other}[r.Intn(2)]
		k.tell(anyList(r), r.Intn(3) > 0)
		one.look()
		other.look()
	}
}

// A decoder keeps no more of what was handed in than its table has room for.
func TestLongBytesAreNotKept(t *testing.T) {
	d, _ := NewDecoder(widest)
	e, _ := NewEncoder(widest)
	d.Feed(capIns(widest))
	e.SetCap(widest)
	before := inUse()
	for n := range 32 {
		long := strings.Repeat(string(rune('A'+n)), 1<<20)
		b := join(toldIns(plain, long[:4], long[4:9]), toldIns(plain, long, ""))
		if fault := d.Feed(b); fault.Why != api.ErrField {
			t.Fatal(fault)
		}
		if _, _, why := e.Encode([]api.Field{field(long[:4], long[4:9])}, true); why != api.OK {
			t.Fatal(why)
		}
	}
	if after := inUse(); after > before+1<<23 {
		t.Errorf("tables of %d bytes keep %d", widest, after-before)
	}
	runtime.KeepAlive(d)
	runtime.KeepAlive(e)
}

// inUse is how many bytes of memory are in use.
func inUse() uint64 {
	runtime.GC()
	var m runtime.MemStats
	runtime.ReadMemStats(&m)
	return m.HeapAlloc
}
