package pint

import (
	"bytes"
	"math"
	"math/big"
	"slices"
	"testing"

	"turnbuckle/api"
)

// highest is the highest number that may be put.
const highest = 1<<62 - 1

// full is the first number that has no room in so many bits of a byte.
func full(width int) int {
	return []int{0, 1, 3, 7, 15, 31, 63, 127, 255}[width]
}

// noWidths are widths that are none.
func noWidths() []int {
	return []int{0, 9, -1, -2, -8, 10, 16, 31, 32, 33, 63, 64, 65, 256 + 5, 1<<32 + 5, -1 << 32, math.MinInt, math.MinInt + 5, math.MaxInt}
}

// noNumbers are numbers that are not put.
func noNumbers() []int {
	return []int{-1, -2, -128, -1 << 31, -1 << 62, math.MinInt, math.MinInt + 1, 1 << 62, 1<<62 + 1, 1<<62 + 255, math.MaxInt - 1, math.MaxInt}
}

// someFlags are flags that may stand ahead of so many bits: none, all, and each alone.
func someFlags(width int) []int {
	l := []int{0, 255 - full(width)}
	for bit := width; bit < 8; bit++ {
		l = append(l, 1<<bit)
	}
	return l
}

// noFlags are flags that may not stand there: with one of the low bits, and what is no byte.
func noFlags(width int) []int {
	l := []int{-1, -2, -128, -256, math.MinInt, 256, 257, 512, 1 << 32, math.MaxInt, full(width), 255}
	for bit := range width {
		l = append(l, 1<<bit, 255-full(width)+1<<bit, 256+1<<bit, -1<<bit)
	}
	return l
}

// numbers are the first ones and the last ones, and those next to where one byte more is needed.
func numbers(width int) []int {
	f := full(width)
	l := []int{0, 1, f - 1, f, f + 1, 10, 37, 1337, 1 << 61, highest - 255, highest - 2, highest - 1, highest}
	for i := 1; i <= 8; i++ {
		up := 1 << (7 * i)
		l = append(l, f+up-2, f+up-1, f+up, f+up+1, up-1, up)
	}
	return l
}

// heads are bytes that stand ahead of a number.
func heads() [][]byte {
	return [][]byte{nil, {}, {0x00}, {0xFF}, {0x80, 0x7F}, {0x1F, 0x9A, 0x0A}, bytes.Repeat([]byte{0xFF}, 12)}
}

// tails are bytes that stand behind one.
func tails() [][]byte {
	return [][]byte{nil, {0x00}, {0x01}, {0x7F}, {0x80}, {0xFF}, {0x80, 0x00}, bytes.Repeat([]byte{0x80}, 11), bytes.Repeat([]byte{0xFF}, 12)}
}

// slowPut are a number's bytes, worked out by dividing.
func slowPut(flags, width, n int) []byte {
	f := full(width)
	if n < f {
		return []byte{byte(flags + n)}
	}
	b := []byte{byte(flags + f)}
	n -= f
	for n >= 128 {
		b = append(b, byte(128+n%128))
		n /= 128
	}
	return append(b, byte(n))
}

// got is what Get answers.
type got struct {
	flags, n, next int
	fault          api.Fault
}

func get(b []byte, at, width int) got {
	flags, n, next, fault := Get(b, at, width)
	return got{flags, n, next, fault}
}

// faulty is what Get answers of a fault.
func faulty(why api.Errno, at int) got {
	return got{fault: api.Fault{Why: why, At: at}}
}

// slowGet is what Get answers at a place that may be, by numbers that have no end.
func slowGet(b []byte, at, width int) got {
	if at == len(b) {
		return faulty(api.ErrEnd, at)
	}
	f := full(width)
	flags, first := int(b[at])/(f+1)*(f+1), int(b[at])%(f+1)
	if first < f {
		return got{flags: flags, n: first, next: at + 1}
	}
	n, times := big.NewInt(int64(f)), big.NewInt(1)
	for place := at + 1; place < len(b); place++ {
		if place-at > 9 {
			return faulty(api.ErrForm, place)
		}
		n.Add(n, new(big.Int).Mul(times, big.NewInt(int64(b[place]%128))))
		if n.Cmp(big.NewInt(highest)) > 0 {
			return faulty(api.ErrForm, place)
		}
		if b[place] < 128 {
			return got{flags: flags, n: int(n.Int64()), next: place + 1}
		}
		times.Mul(times, big.NewInt(128))
	}
	return faulty(api.ErrEnd, len(b))
}

// wantPut asks that a number is put in these bytes behind others, and that Size tells how many they are.
func wantPut(t *testing.T, head []byte, flags, width, n int, want []byte) {
	t.Helper()
	b, e := Put(head, flags, width, n)
	if e != api.OK || !bytes.Equal(b, slices.Concat(head, want)) {
		t.Fatalf("Put(%x, %x, %d, %d) is %x, %v, not %x behind it", head, flags, width, n, b, e, want)
	}
	if size := Size(width, n); size != len(want) {
		t.Fatalf("Size(%d, %d) is %d, not %d", width, n, size, len(want))
	}
}

// notPut asks that a number is refused.
func notPut(t *testing.T, flags, width, n int) {
	t.Helper()
	for _, head := range heads() {
		if b, e := Put(head, flags, width, n); e != api.ErrArg || b != nil {
			t.Fatalf("Put(%x, %d, %d, %d) is %x, %v", head, flags, width, n, b, e)
		}
	}
}

// wantGot asks what is got.
func wantGot(t *testing.T, b []byte, at, width int, want got) {
	t.Helper()
	if x := get(b, at, width); x != want {
		t.Fatalf("Get(%x, %d, %d) is %v, not %v", b, at, width, x, want)
	}
}

// begun is the byte with which a number begins that has groups, and the groups.
func begun(width int, groups ...byte) []byte {
	return append([]byte{byte(full(width))}, groups...)
}
