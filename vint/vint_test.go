package vint

import (
	"bytes"
	"math"
	"slices"
	"testing"

	"turnbuckle/api"
)

// edge is a number, the fewest bytes that it has room in, and its bytes in so many.
type edge struct {
	n     int
	size  int
	bytes []byte
}

// edges are the numbers next to where one more byte is needed, and the examples of the chapter and of RFC 9000, A.1.
func edges() []edge {
	return []edge{
		{0, 1, []byte{0x00}},
		{1, 1, []byte{0x01}},
		{37, 1, []byte{0x25}},
		{1<<6 - 2, 1, []byte{0x3E}},
		{1<<6 - 1, 1, []byte{0x3F}},
		{1 << 6, 2, []byte{0x40, 0x40}},
		{1<<6 + 1, 2, []byte{0x40, 0x41}},
		{15293, 2, []byte{0x7B, 0xBD}},
		{1<<14 - 2, 2, []byte{0x7F, 0xFE}},
		{1<<14 - 1, 2, []byte{0x7F, 0xFF}},
		{1 << 14, 4, []byte{0x80, 0x00, 0x40, 0x00}},
		{1<<14 + 1, 4, []byte{0x80, 0x00, 0x40, 0x01}},
		{494878333, 4, []byte{0x9D, 0x7F, 0x3E, 0x7D}},
		{1<<30 - 2, 4, []byte{0xBF, 0xFF, 0xFF, 0xFE}},
		{1<<30 - 1, 4, []byte{0xBF, 0xFF, 0xFF, 0xFF}},
		{1 << 30, 8, []byte{0xC0, 0x00, 0x00, 0x00, 0x40, 0x00, 0x00, 0x00}},
		{1<<30 + 1, 8, []byte{0xC0, 0x00, 0x00, 0x00, 0x40, 0x00, 0x00, 0x01}},
		{151288809941952652, 8, []byte{0xC2, 0x19, 0x7C, 0x5E, 0xFF, 0x14, 0xE8, 0x8C}},
		{1<<62 - 2, 8, []byte{0xFF, 0xFF, 0xFF, 0xFF, 0xFF, 0xFF, 0xFF, 0xFE}},
		{1<<62 - 1, 8, []byte{0xFF, 0xFF, 0xFF, 0xFF, 0xFF, 0xFF, 0xFF, 0xFF}},
	}
}

// outside are numbers that have room in no width.
func outside() []int {
	return []int{-1, -2, -64, -1 << 62, math.MinInt, 1 << 62, 1<<62 + 1, math.MaxInt}
}

// room is the first number that has none in so many bytes, or 0 where there is no such width.
func room(width int) int {
	switch width {
	case 1:
		return 1 << 6
	case 2:
		return 1 << 14
	case 4:
		return 1 << 30
	case 8:
		return 1 << 62
	}
	return 0
}

// widened are a number's bytes in so many, worked out by dividing.
func widened(n, width int) []byte {
	b := make([]byte, width)
	for i := width - 1; i >= 0; i-- {
		b[i] = byte(n % 256)
		n /= 256
	}
	mark := map[int]byte{1: 0, 2: 1, 4: 2, 8: 3}[width]
	b[0] += mark * 64
	return b
}

// P1.1

func TestSize(t *testing.T) {
	for _, x := range edges() {
		if got := Size(x.n); got != x.size {
			t.Errorf("Size(%d) is %d, not %d", x.n, got, x.size)
		}
	}
	for _, n := range outside() {
		if got := Size(n); got != 0 {
			t.Errorf("Size(%d) is %d, not 0", n, got)
		}
	}
}

func TestPut(t *testing.T) {
	heads := [][]byte{nil, {}, {0xFF}, {1, 2, 3}}
	for _, x := range edges() {
		for _, head := range heads {
			want := slices.Concat(head, x.bytes)
			if got, e := Put(head, x.n); e != api.OK || !bytes.Equal(got, want) {
				t.Errorf("Put(%x, %d) is %x, %v, not %x", head, x.n, got, e, want)
			}
		}
	}
}

func TestPutRefuses(t *testing.T) {
	for _, n := range outside() {
		if got, e := Put([]byte{1}, n); e != api.ErrArg || got != nil {
			t.Errorf("Put(%d) is %x, %v", n, got, e)
		}
	}
}

func TestPutWide(t *testing.T) {
	for _, x := range edges() {
		for width := -1; width <= 17; width++ {
			got, e := PutWide([]byte{7, 8}, x.n, width)
			if x.n >= room(width) {
				if e != api.ErrArg || got != nil {
					t.Errorf("PutWide(%d, %d) is %x, %v", x.n, width, got, e)
				}
				continue
			}
			want := slices.Concat([]byte{7, 8}, widened(x.n, width))
			if e != api.OK || !bytes.Equal(got, want) {
				t.Errorf("PutWide(%d, %d) is %x, %v, not %x", x.n, width, got, e, want)
			}
		}
	}
	if got, e := PutWide(nil, 37, 2); e != api.OK || !bytes.Equal(got, []byte{0x40, 0x25}) {
		t.Errorf("37 in two bytes is %x, %v", got, e)
	}
}

func TestPutWideRefuses(t *testing.T) {
	for _, n := range outside() {
		for _, width := range []int{1, 2, 4, 8} {
			if got, e := PutWide([]byte{1}, n, width); e != api.ErrArg || got != nil {
				t.Errorf("PutWide(%d, %d) is %x, %v", n, width, got, e)
			}
		}
	}
	for _, width := range []int{math.MinInt, -8, -4, -2, -1, 0, 3, 5, 6, 7, 9, 16, 32, 64, math.MaxInt} {
		if got, e := PutWide([]byte{1}, 0, width); e != api.ErrArg || got != nil {
			t.Errorf("PutWide(0, %d) is %x, %v", width, got, e)
		}
	}
}

// R4: room to spare behind b is somebody else's.
func TestPutLeavesWhatItWasHanded(t *testing.T) {
	for _, width := range []int{1, 2, 4, 8} {
		whole := []byte{1, 2, 3, 4, 5, 6, 7, 8, 9, 10, 11, 12}
		before := bytes.Clone(whole)
		got, e := PutWide(whole[:2], 0, width)
		if e != api.OK || !bytes.Equal(whole, before) {
			t.Fatalf("PutWide in %d bytes turned %x to %x, %v", width, before, whole, e)
		}
		clear(got)
		if !bytes.Equal(whole, before) {
			t.Fatalf("what PutWide in %d bytes answered is the caller's no more", width)
		}
	}
	whole := []byte{1, 2, 3}
	got, _ := Put(whole[:1], 5)
	clear(got)
	if !bytes.Equal(whole, []byte{1, 2, 3}) {
		t.Fatalf("Put turned what it was handed to %x", whole)
	}
}

// P1.2

func TestGet(t *testing.T) {
	for _, x := range edges() {
		for _, width := range []int{1, 2, 4, 8} {
			if x.n >= room(width) {
				continue
			}
			for at := range 4 {
				b := slices.Concat(bytes.Repeat([]byte{0xC1}, at), widened(x.n, width), []byte{0xFF})
				n, next, fault := Get(b, at)
				if n != x.n || next != at+width || fault != (api.Fault{}) {
					t.Errorf("Get(%x, %d) is %d, %d, %v", b, at, n, next, fault)
				}
			}
		}
	}
}

func TestGetRefusesPlaces(t *testing.T) {
	for _, b := range [][]byte{nil, {}, {0x25}, {0x40, 0x25}, {1, 2, 3, 4, 5, 6, 7, 8, 9}} {
		for _, at := range []int{-1, -2, math.MinInt, len(b) + 1, len(b) + 2, len(b) + 8, math.MaxInt} {
			n, next, fault := Get(b, at)
			if n != 0 || next != 0 || fault != (api.Fault{Why: api.ErrArg, At: at}) {
				t.Errorf("Get(%x, %d) is %d, %d, %v", b, at, n, next, fault)
			}
		}
	}
}

func TestGetMissesBytes(t *testing.T) {
	for _, width := range []int{1, 2, 4, 8} {
		for there := range width {
			for at := range 3 {
				b := slices.Concat(make([]byte, at), widened(room(width)-1, width)[:there])
				n, next, fault := Get(b, at)
				if n != 0 || next != 0 || fault != (api.Fault{Why: api.ErrEnd, At: len(b)}) {
					t.Errorf("Get(%x, %d) is %d, %d, %v", b, at, n, next, fault)
				}
			}
		}
	}
}

func TestAll(t *testing.T) {
	b := []byte{0x25, 0x40, 0x25, 0x9D, 0x7F, 0x3E, 0x7D, 0xC2, 0x19, 0x7C, 0x5E, 0xFF, 0x14, 0xE8, 0x8C, 0x00}
	want := []int{37, 37, 494878333, 151288809941952652, 0}
	if got, fault := All(b); !slices.Equal(got, want) || fault != (api.Fault{}) {
		t.Errorf("All is %v, %v", got, fault)
	}
	for _, none := range [][]byte{nil, {}} {
		if got, fault := All(none); len(got) != 0 || fault != (api.Fault{}) {
			t.Errorf("All of no bytes is %v, %v", got, fault)
		}
	}
}

func TestAllMissesBytes(t *testing.T) {
	for _, head := range [][]byte{nil, {0x25}, {0x40, 0x25, 0x9D, 0x7F, 0x3E, 0x7D}} {
		for _, width := range []int{2, 4, 8} {
			for there := 1; there < width; there++ {
				b := slices.Concat(head, widened(1, width)[:there])
				got, fault := All(b)
				if got != nil || fault != (api.Fault{Why: api.ErrEnd, At: len(b)}) {
					t.Errorf("All(%x) is %v, %v", b, got, fault)
				}
			}
		}
	}
}

// R4, of the calls that read.
func TestReadingTurnsNothing(t *testing.T) {
	b := []byte{0xC2, 0x19, 0x7C, 0x5E, 0xFF, 0x14, 0xE8, 0x8C, 0x7B, 0xBD}
	before := bytes.Clone(b)
	Get(b, 0)
	All(b)
	if !bytes.Equal(b, before) {
		t.Fatalf("reading turned %x to %x", before, b)
	}
}

// P1.3

func TestWhatWasPutIsGot(t *testing.T) {
	try := func(n int) {
		b, e := Put(nil, n)
		got, next, fault := Get(b, 0)
		if e != api.OK || got != n || next != len(b) || len(b) != Size(n) || fault != (api.Fault{}) {
			t.Fatalf("%d put is %x, %v; got it is %d, %d, %v", n, b, e, got, next, fault)
		}
		for _, width := range []int{1, 2, 4, 8} {
			b, e := PutWide([]byte{0xFF}, n, width)
			if width < Size(n) {
				if e != api.ErrArg {
					t.Fatalf("%d in %d bytes: %v", n, width, e)
				}
				continue
			}
			got, next, fault := Get(b, 1)
			if e != api.OK || got != n || next != 1+width || fault != (api.Fault{}) {
				t.Fatalf("%d in %d bytes is %x, %v; got it is %d, %d, %v", n, width, b, e, got, next, fault)
			}
		}
	}
	for n := range 1<<14 + 300 {
		try(n)
	}
	for bit := range 62 {
		for off := -3; off <= 3; off++ {
			if n := 1<<bit + off; n >= 0 {
				try(n)
			}
		}
	}
	for n := 1; n <= api.MaxVarint/4; n = n*3 + 1 {
		try(n)
	}
	try(1<<62 - 1)
}

// P1.4

func TestNumbersOneBehindTheOther(t *testing.T) {
	var want []int
	var b []byte
	widths := []int{8, 1, 4, 2}
	for round, x := range slices.Repeat(edges(), 9) {
		width := max(Size(x.n), widths[round%len(widths)])
		var e api.Errno
		if b, e = PutWide(b, x.n, width); e != api.OK {
			t.Fatal(x.n, width, e)
		}
		want = append(want, x.n)
		if got, fault := All(b); !slices.Equal(got, want) || fault != (api.Fault{}) {
			t.Fatalf("All(%x) is %v, %v, not %v", b, got, fault, want)
		}
	}
}

// P1.5

func TestTheFirstByteAloneTellsTheWidth(t *testing.T) {
	for first := range 256 {
		width := 1 << (first / 64)
		for _, fill := range []byte{0x00, 0x40, 0x7F, 0x80, 0xC0, 0xFF} {
			b := append([]byte{byte(first)}, bytes.Repeat([]byte{fill}, 7)...)
			if _, next, fault := Get(b, 0); next != width || fault != (api.Fault{}) {
				t.Errorf("Get(%x, 0) ends at %d, %v, not at %d", b, next, fault, width)
			}
		}
	}
}

func TestWhatStandsBehindTurnsNothing(t *testing.T) {
	for _, x := range edges() {
		for _, tail := range [][]byte{{0x00}, {0xFF}, {0xC0, 1}, {0x80}, {0x40}, bytes.Repeat([]byte{0xFF}, 9)} {
			b := slices.Concat(x.bytes, tail)
			n, next, fault := Get(b, 0)
			if n != x.n || next != x.size || fault != (api.Fault{}) {
				t.Errorf("Get(%x, 0) is %d, %d, %v", b, n, next, fault)
			}
		}
	}
}
