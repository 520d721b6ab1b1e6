package qpack

import (
	"bytes"
	"math"
	"slices"
	"strconv"
	"strings"
	"testing"

	"turnbuckle/api"
)

// P14.3 and P14.5: encoders.

// talk is an encoder, and a decoder that was fed all its instructions.
type talk struct {
	*pair
	e *Encoder
}

// talker is a talk with a capacity; both tables may grow up to most.
func talker(t *testing.T, most, capacity int) *talk {
	t.Helper()
	e, why := NewEncoder(most)
	if e == nil || why != api.OK {
		t.Fatalf("NewEncoder(%d) is %v, %v", most, e, why)
	}
	k := &talk{pair: decoder(t, most, 0), e: e}
	k.setCap(capacity)
	return k
}

func (k *talk) setCap(n int) {
	k.t.Helper()
	b, why := k.e.SetCap(n)
	if why != api.OK || !bytes.Equal(b, capIns(n)) {
		k.t.Fatalf("SetCap(%d) is %x, %v", n, b, why)
	}
	k.fed(b)
}

// tell encodes a list, and asks that it is decoded as it should be: what the instructions and the section are is answered.
func (k *talk) tell(l []api.Field, put bool) ([]byte, []byte) {
	k.t.Helper()
	before := slices.Clone(l)
	instructions, b, why := k.e.Encode(l, put)
	if why != api.OK {
		k.t.Fatalf("Encode(%q, %v) is %v", l, put, why)
	}
	if !slices.Equal(l, before) {
		k.t.Fatalf("Encode(%q) turned it to %q", before, l)
	}
	if !put {
		if len(instructions) > 0 {
			k.t.Fatalf("without put Encode(%q) has the instructions %x", l, instructions)
		}
		decoder(k.t, 0, 0).tells(b, l...)
		decoder(k.t, widest, widest, putIns(field("a", "b"))).tells(b, l...)
	}
	if need := (&slow{b: b}).num(8).Int64(); int(need) > k.Count() {
		k.fails(b, api.ErrWait, 0)
	}
	k.fed(instructions)
	k.tells(b, l...)
	k.tells(b, l...)
	return instructions, b
}

// refuses asks for the error of a list, and that nothing turns.
func (k *talk) refuses(l []api.Field, why api.Errno) {
	k.t.Helper()
	for _, put := range []bool{false, true} {
		if instructions, b, e := k.e.Encode(l, put); instructions != nil || b != nil || e != why {
			k.t.Fatalf("Encode of %d fields is %x, %x, %v, not %v", len(l), instructions, b, e, why)
		}
	}
}

// many are so many fields, no two of them the same.
func many(n int) []api.Field {
	var l []api.Field
	for i := range n {
		l = append(l, field("name-"+strconv.Itoa(i/2), "value-"+strconv.Itoa(i)))
	}
	return l
}

func TestNewEncoder(t *testing.T) {
	for _, most := range []int{0, 1, 31, 4095, widest} {
		k := talker(t, most, most)
		for _, n := range []int{-1, -2, -1 << 32, math.MinInt, most + 1, most + 1<<32, math.MaxInt} {
			if b, e := k.e.SetCap(n); b != nil || e != api.ErrArg {
				t.Errorf("SetCap(%d) of an encoder for %d is %x, %v", n, most, b, e)
			}
		}
		k.tell(many(9), true)
	}
	for _, most := range []int{-1, -2, -4096, math.MinInt, widest + 1, 1 << 16, 1<<32 + 1, math.MaxInt} {
		if e, why := NewEncoder(most); e != nil || why != api.ErrArg {
			t.Errorf("NewEncoder(%d) is %v, %v", most, e, why)
		}
	}
}

// An encoder's table has no room until one is told.
func TestANewEncoderPutsNothingIn(t *testing.T) {
	e, _ := NewEncoder(widest)
	for _, l := range [][]api.Field{nil, many(5), fixedTable(), {field("", "")}} {
		instructions, b, why := e.Encode(l, true)
		if len(instructions) > 0 || why != api.OK {
			t.Fatalf("Encode(%q) has the instructions %x, %v", l, instructions, why)
		}
		decoder(t, 0, 0).tells(b, l...)
	}
}

func TestSetCapInBetween(t *testing.T) {
	k := talker(t, widest, 200)
	for _, n := range []int{200, 0, 31, 32, 33, 100, 100, widest, 4095, 62, 1000} {
		k.tell(many(7), true)
		k.setCap(n)
		k.tell(many(6), true)
		k.tell(many(3), false)
		if _, why := k.e.SetCap(widest + 1); why != api.ErrArg {
			t.Fatal(why)
		}
	}
}

func TestNoFields(t *testing.T) {
	for _, capacity := range []int{0, widest} {
		k := talker(t, widest, capacity)
		for range 3 {
			for _, put := range []bool{false, true} {
				for _, l := range [][]api.Field{nil, {}} {
					if instructions, _ := k.tell(l, put); len(instructions) > 0 {
						t.Fatalf("no fields have the instructions %x", instructions)
					}
				}
			}
			k.tell(many(3), true)
		}
	}
}

func TestManyFields(t *testing.T) {
	for _, capacity := range []int{0, 100, widest} {
		k := talker(t, widest, capacity)
		for _, put := range []bool{true, false, true} {
			k.tell(many(63), put)
			k.tell(many(64), put)
			k.refuses(many(65), api.ErrMany)
			k.refuses(many(300), api.ErrMany)
			k.refuses(append(many(64), sized(65, 513)), api.ErrMany)
			k.refuses(append([]api.Field{sized(65, 0)}, many(64)...), api.ErrMany)
		}
	}
}

func TestLongFields(t *testing.T) {
	for _, capacity := range []int{0, 500, 608, widest} {
		k := talker(t, widest, capacity)
		for _, put := range []bool{true, false, true} {
			k.tell([]api.Field{sized(64, 512)}, put)
			k.tell([]api.Field{sized(64, 0), sized(0, 512), field(":path", strings.Repeat("/", 512)), sized(64, 511), sized(63, 512)}, put)
			k.tell([]api.Field{field(strings.Repeat("\xFF", 64), strings.Repeat("\x00", 512))}, put)
			for _, f := range []api.Field{sized(65, 0), sized(0, 513), sized(65, 512), sized(64, 513), sized(65, 513), sized(1000, 1), sized(1, 1<<16), field(":path", strings.Repeat("/", 513))} {
				k.refuses([]api.Field{f}, api.ErrField)
				k.refuses(append(many(63), f), api.ErrField)
				k.refuses(append([]api.Field{f}, many(63)...), api.ErrField)
			}
		}
	}
}

// What is refused puts nothing in, and takes nothing out (R7).
func TestAListThatIsRefusedTurnsNothing(t *testing.T) {
	one, other := talker(t, widest, 200), talker(t, widest, 200)
	for n := range 20 {
		l := many(n)
		instructions, b := one.tell(l, n%3 > 0)
		other.refuses(append(many(20), sized(65, 0)), api.ErrField)
		other.refuses(many(65), api.ErrMany)
		if _, why := other.e.SetCap(-1); why != api.ErrArg {
			t.Fatal(why)
		}
		same, as := other.tell(l, n%3 > 0)
		if !bytes.Equal(instructions, same) || !bytes.Equal(b, as) {
			t.Fatalf("%q are %x, %x, and %x, %x behind what was refused", l, instructions, b, same, as)
		}
	}
}

// Which instructions come is free, but a field that is told again and again is told shortly.
func TestWhatComesAgainIsShort(t *testing.T) {
	k := talker(t, widest, widest)
	l := many(20)
	k.tell(l, true)
	instructions, b := k.tell(l, true)
	if len(instructions) > 0 || len(b) > 2+20 {
		t.Fatalf("told again the fields are %x, %x", instructions, b)
	}
	if _, plainly := k.tell(l, false); len(plainly) < len(b) {
		t.Fatalf("the table makes %x of %x", b, plainly)
	}
	_, b = k.tell(fixedTable(), false)
	if len(b) != 2+24 {
		t.Fatalf("the fixed table is told as %x", b)
	}
}

// A list is decoded behind all its instructions: none may make a field go of which a line tells.
func TestFieldsThatMakeOthersGo(t *testing.T) {
	for capacity := range 300 {
		k := talker(t, widest, capacity)
		k.tell(many(3), true)
		k.tell(many(9), true)
		k.tell([]api.Field{field("name-0", "value-0"), field("name-0", "other"), field("name-0", "value-0"), field("new", "value"), field("name-0", "other")}, true)
		l := many(12)
		slices.Reverse(l)
		k.tell(l, true)
		k.tell(slices.Concat(l[:3], many(5), l[:3]), true)
		k.tell([]api.Field{field(":path", "/a"), field(":path", "/b"), field(":path", "/c"), field(":path", "/a")}, true)
	}
}

func TestFieldsOfAllKindsOfTexts(t *testing.T) {
	for _, capacity := range []int{0, 120, widest} {
		k := talker(t, widest, capacity)
		for _, put := range []bool{true, false, true} {
			k.tell([]api.Field{field("", ""), field("", ""), field("", "v"), field("n", "")}, put)
			k.tell(fixedTable(), put)
			k.tell([]api.Field{field("Age", "0"), field("age", "00"), field(":status", "500"), field("date", "\x00"), field("\xFF\xFE", "\xC3\x28"), field("\u00e4", "\u4e16")}, put)
			for length := range 65 {
				k.tell([]api.Field{field(strings.Repeat("a", length), strings.Repeat("Q", 8*length)), field(strings.Repeat("Z", length), strings.Repeat("e", 8*length))}, put)
			}
		}
	}
}

// P14.4

func TestNilAndWhatWasNotMade(t *testing.T) {
	for _, d := range []*Decoder{nil, {}, new(Decoder)} {
		for _, b := range [][]byte{nil, {0}, {0x20}, {0xFF, 0xFF}, {0, 0, 0xD1, 0xC1}, capIns(widest + 1)} {
			if fault := d.Feed(b); fault != (api.Fault{Why: api.ErrNil}) {
				t.Errorf("Feed(%x) is %v", b, fault)
			}
			if l, fault := d.Decode(b); l != nil || fault != (api.Fault{Why: api.ErrNil}) {
				t.Errorf("Decode(%x) is %q, %v", b, l, fault)
			}
			if d.Count() != 0 {
				t.Errorf("Count is %d", d.Count())
			}
		}
	}
	for _, e := range []*Encoder{nil, {}, new(Encoder)} {
		for _, n := range []int{-1, 0, 100, widest + 1} {
			if b, why := e.SetCap(n); b != nil || why != api.ErrNil {
				t.Errorf("SetCap(%d) is %x, %v", n, b, why)
			}
		}
		for _, l := range [][]api.Field{nil, many(3), many(65), {sized(65, 0)}} {
			for _, put := range []bool{false, true} {
				if instructions, b, why := e.Encode(l, put); instructions != nil || b != nil || why != api.ErrNil {
					t.Errorf("Encode of %d fields is %x, %x, %v", len(l), instructions, b, why)
				}
			}
		}
	}
}
