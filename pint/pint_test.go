package pint

import (
	"bytes"
	"math"
	"slices"
	"testing"

	"turnbuckle/api"
)

// P11.1

func TestPut(t *testing.T) {
	ff := bytes.Repeat([]byte{0xFF}, 8)
	for _, x := range []struct {
		flags, width, n int
		bytes           []byte
	}{
		{0, 5, 1337, []byte{0x1F, 0x9A, 0x0A}},
		{0, 5, 10, []byte{0x0A}},
		{0xE0, 5, 1337, []byte{0xFF, 0x9A, 0x0A}},
		{0xA0, 5, 10, []byte{0xAA}},
		{0, 8, 42, []byte{0x2A}},
		{0, 1, 0, []byte{0x00}},
		{0, 1, 1, []byte{0x01, 0x00}},
		{0, 1, 2, []byte{0x01, 0x01}},
		{0xFE, 1, 0, []byte{0xFE}},
		{0xFE, 1, 1, []byte{0xFF, 0x00}},
		{0x80, 7, 126, []byte{0xFE}},
		{0x80, 7, 127, []byte{0xFF, 0x00}},
		{0x80, 7, 128, []byte{0xFF, 0x01}},
		{0, 8, 254, []byte{0xFE}},
		{0, 8, 255, []byte{0xFF, 0x00}},
		{0, 8, 255 + 127, []byte{0xFF, 0x7F}},
		{0, 8, 255 + 128, []byte{0xFF, 0x80, 0x01}},
		{0, 8, 255 + 1<<14 - 1, []byte{0xFF, 0xFF, 0x7F}},
		{0, 8, 255 + 1<<14, []byte{0xFF, 0x80, 0x80, 0x01}},
		{0, 1, 1 + 1<<56 - 1, slices.Concat([]byte{0x01}, ff[:7], []byte{0x7F})},
		{0, 1, 1 + 1<<56, []byte{0x01, 0x80, 0x80, 0x80, 0x80, 0x80, 0x80, 0x80, 0x80, 0x01}},
		{0, 1, highest, slices.Concat([]byte{0x01, 0xFE}, ff[:7], []byte{0x3F})},
		{0, 8, highest, slices.Concat([]byte{0xFF, 0x80, 0xFE}, ff[:6], []byte{0x3F})},
		{0, 8, highest - 1, slices.Concat([]byte{0xFF, 0xFF, 0xFD}, ff[:6], []byte{0x3F})},
	} {
		wantPut(t, nil, x.flags, x.width, x.n, x.bytes)
	}
}

func TestPutNextToOneByteMore(t *testing.T) {
	for width := 1; width <= 8; width++ {
		for _, n := range numbers(width) {
			for _, flags := range someFlags(width) {
				for _, head := range heads() {
					wantPut(t, head, flags, width, n, slowPut(flags, width, n))
				}
			}
		}
	}
}

func TestSize(t *testing.T) {
	for width := 1; width <= 8; width++ {
		f := full(width)
		want := map[int]int{0: 1, f - 1: 1, f: 2, highest - 1: 10, highest: 10}
		for i := 1; i <= 8; i++ {
			want[f+1<<(7*i)-1] = 1 + i
			want[f+1<<(7*i)] = 2 + i
		}
		for n, size := range want {
			if x := Size(width, n); x != size {
				t.Errorf("Size(%d, %d) is %d, not %d", width, n, x, size)
			}
		}
	}
}

func TestPutRefusesWidths(t *testing.T) {
	for _, width := range noWidths() {
		for _, n := range append(noNumbers(), 0, 1, 10, 1337, highest) {
			for _, flags := range []int{0, 1, 128, 255, 256, -1} {
				notPut(t, flags, width, n)
			}
			if size := Size(width, n); size != 0 {
				t.Errorf("Size(%d, %d) is %d", width, n, size)
			}
		}
	}
}

func TestPutRefusesNumbers(t *testing.T) {
	for width := 1; width <= 8; width++ {
		for _, n := range noNumbers() {
			for _, flags := range append(someFlags(width), noFlags(width)...) {
				notPut(t, flags, width, n)
			}
			if size := Size(width, n); size != 0 {
				t.Errorf("Size(%d, %d) is %d", width, n, size)
			}
		}
	}
}

func TestPutRefusesFlags(t *testing.T) {
	for width := 1; width <= 8; width++ {
		for _, flags := range noFlags(width) {
			for _, n := range []int{0, 1, full(width) - 1, full(width), full(width) + 1, 1337, highest} {
				notPut(t, flags, width, n)
			}
		}
	}
}

func TestPutTakesAllFlagsThatMayBe(t *testing.T) {
	for width := 1; width <= 8; width++ {
		for flags := -300; flags <= 600; flags++ {
			if flags < 0 || flags > 255 || flags%(full(width)+1) != 0 {
				notPut(t, flags, width, 0)
				continue
			}
			wantPut(t, nil, flags, width, 0, []byte{byte(flags)})
			wantPut(t, nil, flags, width, full(width), []byte{byte(flags + full(width)), 0})
		}
	}
}

// P11.2

func TestGet(t *testing.T) {
	wantGot(t, []byte{0x1F, 0x9A, 0x0A}, 0, 5, got{n: 1337, next: 3})
	wantGot(t, []byte{0x0A}, 0, 5, got{n: 10, next: 1})
	wantGot(t, []byte{0xEA}, 0, 5, got{flags: 0xE0, n: 10, next: 1})
	wantGot(t, []byte{0xBF, 0x9A, 0x0A}, 0, 5, got{flags: 0xA0, n: 1337, next: 3})
	wantGot(t, []byte{0x2A}, 0, 8, got{n: 42, next: 1})
	wantGot(t, []byte{0x77, 0xFF, 0x01, 0x77}, 1, 7, got{flags: 0x80, n: 128, next: 3})
	wantGot(t, begun(1, 0xFE, 0xFF, 0xFF, 0xFF, 0xFF, 0xFF, 0xFF, 0xFF, 0x3F), 0, 1, got{n: highest, next: 10})
	wantGot(t, begun(8, 0x80, 0xFE, 0xFF, 0xFF, 0xFF, 0xFF, 0xFF, 0xFF, 0x3F), 0, 8, got{n: highest, next: 10})
}

func TestGetAtEveryWidth(t *testing.T) {
	b := []byte{0x00, 0xFF, 0x9A, 0x0A, 0x5A}
	for width := 1; width <= 8; width++ {
		f := full(width)
		wantGot(t, b, 0, width, got{next: 1})
		wantGot(t, b, 1, width, got{flags: 255 - f, n: f + 1306, next: 4})
		wantGot(t, b, len(b), width, faulty(api.ErrEnd, len(b)))
	}
	wantGot(t, b, 4, 1, got{flags: 0x5A, next: 5})
	wantGot(t, b, 4, 2, got{flags: 0x58, n: 2, next: 5})
	wantGot(t, b, 4, 3, got{flags: 0x58, n: 2, next: 5})
	wantGot(t, b, 4, 4, got{flags: 0x50, n: 10, next: 5})
	wantGot(t, b, 4, 5, got{flags: 0x40, n: 26, next: 5})
	wantGot(t, b, 4, 6, got{flags: 0x40, n: 26, next: 5})
	wantGot(t, b, 4, 7, got{n: 90, next: 5})
	wantGot(t, b, 4, 8, got{n: 90, next: 5})
}

func TestGetRefusesPlaces(t *testing.T) {
	for _, b := range [][]byte{nil, {}, {0x0A}, {0x1F, 0x9A, 0x0A}, bytes.Repeat([]byte{0xFF}, 12)} {
		for _, at := range []int{-1, -2, -1 << 31, math.MinInt, len(b) + 1, len(b) + 2, len(b) + 9, 1 << 32, math.MaxInt} {
			for width := 1; width <= 8; width++ {
				wantGot(t, b, at, width, faulty(api.ErrArg, at))
			}
			for _, width := range noWidths() {
				wantGot(t, b, at, width, faulty(api.ErrArg, at))
			}
		}
	}
}

// A width that is none is told of, whatever is wrong with the bytes.
func TestGetRefusesWidths(t *testing.T) {
	for _, b := range [][]byte{nil, {0x0A}, {0xFF}, {0x1F, 0x9A, 0x0A}, {0xFF, 0x80, 0x80}, bytes.Repeat([]byte{0xFF}, 12)} {
		for at := range len(b) + 1 {
			for _, width := range noWidths() {
				wantGot(t, b, at, width, faulty(api.ErrArg, at))
			}
		}
	}
}

func TestGetMissesBytes(t *testing.T) {
	for width := 1; width <= 8; width++ {
		for _, n := range numbers(width) {
			for _, flags := range someFlags(width) {
				whole := slowPut(flags, width, n)
				for _, head := range heads() {
					for there := range len(whole) {
						b := slices.Concat(head, whole[:there])
						wantGot(t, b, len(head), width, faulty(api.ErrEnd, len(b)))
					}
				}
			}
		}
	}
}

func TestGetTakesNeedlessGroups(t *testing.T) {
	for width := 1; width <= 8; width++ {
		for _, flags := range someFlags(width) {
			for _, n := range numbers(width) {
				if n < full(width) {
					continue
				}
				b := slowPut(flags, width, n)
				for len(b) < 10 {
					b[len(b)-1] |= 0x80
					b = append(b, 0x00)
					wantGot(t, b, 0, width, got{flags: flags, n: n, next: len(b)})
					wantGot(t, b[:len(b)-1], 0, width, faulty(api.ErrEnd, len(b)-1))
				}
			}
		}
	}
}

// asMany is a number in nine groups of which another one follows the last, however few would do.
func asMany(width, n int) []byte {
	b := slowPut(0, width, n)
	b[len(b)-1] |= 0x80
	return append(b, bytes.Repeat([]byte{0x80}, 10-len(b))...)
}

func TestGetRefusesATenthGroup(t *testing.T) {
	for width := 1; width <= 8; width++ {
		for _, n := range numbers(width) {
			if n < full(width) {
				continue
			}
			b := asMany(width, n)
			for _, head := range heads() {
				nine := slices.Concat(head, b)
				wantGot(t, nine, len(head), width, faulty(api.ErrEnd, len(nine)))
				for tenth := range 256 {
					ten := slices.Concat(nine, []byte{byte(tenth)})
					wantGot(t, ten, len(head), width, faulty(api.ErrForm, len(nine)))
				}
				long := slices.Concat(nine, bytes.Repeat([]byte{0x80}, 30), []byte{0x00})
				wantGot(t, long, len(head), width, faulty(api.ErrForm, len(nine)))
			}
		}
	}
}

// The highest number, one less, and one more, of which the ninth group tells.
func TestGetNextToTheHighestNumber(t *testing.T) {
	for width := 1; width <= 8; width++ {
		b := slowPut(0, width, highest)
		wantGot(t, b, 0, width, got{n: highest, next: 10})

		less := bytes.Clone(b)
		less[9]--
		wantGot(t, less, 0, width, got{n: highest - 1<<56, next: 10})
		less = slowPut(0, width, highest-1)
		wantGot(t, less, 0, width, got{n: highest - 1, next: 10})

		for higher := 0x40; higher < 0x80; higher++ {
			above := bytes.Clone(b)
			above[9] = byte(higher)
			wantGot(t, above, 0, width, faulty(api.ErrForm, 9))
			wantGot(t, begun(width, 0x80, 0x80, 0x80, 0x80, 0x80, 0x80, 0x80, 0x80, byte(higher)), 0, width, faulty(api.ErrForm, 9))
			wantGot(t, begun(width, 0xFF, 0xFF, 0xFF, 0xFF, 0xFF, 0xFF, 0xFF, 0xFF, byte(higher)), 0, width, faulty(api.ErrForm, 9))
		}
	}
}

// oneAbove is 2^62 in groups, worked out from the highest number's by carrying.
func oneAbove(width int) []byte {
	b := slowPut(0, width, highest)
	for i := 1; ; i++ {
		if b[i]&0x7F < 0x7F {
			b[i]++
			return b
		}
		b[i] &= 0x80
	}
}

func TestGetRefusesOneMoreThanTheHighestNumber(t *testing.T) {
	for width := 1; width <= 8; width++ {
		b := oneAbove(width)
		for _, head := range heads() {
			wantGot(t, slices.Concat(head, b), len(head), width, faulty(api.ErrForm, len(head)+9))
		}
		wantGot(t, b[:9], 0, width, faulty(api.ErrEnd, 9))
	}
}

// No group ahead of the ninth can tell too much: eight of the greatest are taken, with needless ones behind them or a last one that tells more.
func TestGetTakesTheGreatestGroupsAheadOfTheNinth(t *testing.T) {
	for width := 1; width <= 8; width++ {
		for groups := 1; groups <= 8; groups++ {
			b := begun(width, bytes.Repeat([]byte{0xFF}, groups)...)
			wantGot(t, b, 0, width, faulty(api.ErrEnd, 1+groups))
			b[groups] = 0x7F
			n := full(width) + 1<<(7*groups) - 1
			wantGot(t, b, 0, width, got{n: n, next: 1 + groups})
			b[groups] = 0xFF
			wantGot(t, append(b, 0x00), 0, width, got{n: n, next: 2 + groups})
			wantGot(t, append(b, 0x01), 0, width, got{n: n + 1<<(7*groups), next: 2 + groups})
		}
		// What eight of the greatest groups carry over leaves room for one less in the ninth.
		b := begun(width, bytes.Repeat([]byte{0xFF}, 8)...)
		wantGot(t, append(b, 0x3E), 0, width, got{n: full(width) + 63<<56 - 1, next: 10})
		wantGot(t, append(b, 0x3F), 0, width, faulty(api.ErrForm, 9))
	}
}

// The byte that tells too much is named, though a byte is missing behind it, or a tenth group stands there.
func TestGetNamesTheFirstByteThatIsWrong(t *testing.T) {
	for width := 1; width <= 8; width++ {
		for _, ninth := range []byte{0xC0, 0xC1, 0xFF} {
			for _, eight := range []byte{0x80, 0xFF} {
				b := append(begun(width, bytes.Repeat([]byte{eight}, 8)...), ninth)
				for _, tail := range tails() {
					wantGot(t, slices.Concat(b, tail), 0, width, faulty(api.ErrForm, 9))
				}
			}
		}
		b := oneAbove(width)
		b[9] |= 0x80
		for _, tail := range tails() {
			wantGot(t, slices.Concat(b, tail), 0, width, faulty(api.ErrForm, 9))
		}
	}
}

// P11.3

func TestWhatWasPutIsGot(t *testing.T) {
	for width := 1; width <= 8; width++ {
		for _, flags := range someFlags(width) {
			for _, n := range numbers(width) {
				for _, head := range heads() {
					b, e := Put(head, flags, width, n)
					if e != api.OK || len(b) != len(head)+Size(width, n) {
						t.Fatalf("Put(%x, %x, %d, %d) is %x, %v", head, flags, width, n, b, e)
					}
					want := got{flags: flags, n: n, next: len(b)}
					for _, tail := range tails() {
						wantGot(t, slices.Concat(b, tail), len(head), width, want)
					}
				}
			}
		}
	}
}

func TestNumbersOneBehindTheOther(t *testing.T) {
	for width := 1; width <= 8; width++ {
		var b []byte
		for _, n := range numbers(width) {
			var e api.Errno
			if b, e = Put(b, 255-full(width), width, n); e != api.OK {
				t.Fatal(width, n, e)
			}
		}
		at := 0
		for _, n := range numbers(width) {
			x := get(b, at, width)
			if x != (got{flags: 255 - full(width), n: n, next: at + Size(width, n)}) {
				t.Fatalf("Get(%x, %d, %d) is %v, not %d", b, at, width, x, n)
			}
			at = x.next
		}
		if at != len(b) {
			t.Fatalf("%d numbers of %d bits end at %d of %d", len(numbers(width)), width, at, len(b))
		}
	}
}

// P11.5

func TestWhatStandsBehindTurnsNothing(t *testing.T) {
	for width := 1; width <= 8; width++ {
		for _, n := range numbers(width) {
			b := slowPut(0, width, n)
			for behind := range 256 {
				wantGot(t, slices.Concat(b, []byte{byte(behind)}), 0, width, got{n: n, next: len(b)})
			}
		}
		above := oneAbove(width)
		for behind := range 256 {
			wantGot(t, slices.Concat(above, []byte{byte(behind)}), 0, width, faulty(api.ErrForm, 9))
		}
	}
}

// R4 and R7

// Room to spare behind b is somebody else's.
func TestPutLeavesWhatItWasHanded(t *testing.T) {
	for width := 1; width <= 8; width++ {
		for _, n := range []int{0, full(width), 1337, highest} {
			for length := range 4 {
				whole := []byte{1, 2, 3, 4, 5, 6, 7, 8, 9, 10, 11, 12, 13, 14, 15, 16}
				before := bytes.Clone(whole)
				b, e := Put(whole[:length], 0, width, n)
				if e != api.OK || !bytes.Equal(whole, before) {
					t.Fatalf("Put(%d bytes, 0, %d, %d) turned %x to %x, %v", length, width, n, before, whole, e)
				}
				again := bytes.Clone(b)
				for i := range whole {
					whole[i] = 0xEE
				}
				if !bytes.Equal(b, again) {
					t.Fatalf("what Put(%d bytes, 0, %d, %d) answered shares what it was handed", length, width, n)
				}
				clear(b[:cap(b)])
				if !bytes.Equal(whole, bytes.Repeat([]byte{0xEE}, len(whole))) {
					t.Fatalf("what Put(%d bytes, 0, %d, %d) answered is not the caller's", length, width, n)
				}
			}
		}
	}
}

func TestPutThatRefusesTurnsNothing(t *testing.T) {
	whole := bytes.Repeat([]byte{7}, 16)
	for _, x := range [][3]int{{0, 0, 5}, {0, 9, 5}, {1, 5, 1337}, {256, 5, 1337}, {-1, 5, 1337}, {0, 5, -1}, {0, 5, highest + 1}} {
		if b, e := Put(whole[:2], x[0], x[1], x[2]); e != api.ErrArg || b != nil {
			t.Fatalf("Put(0707, %d, %d, %d) is %x, %v", x[0], x[1], x[2], b, e)
		}
		if !bytes.Equal(whole, bytes.Repeat([]byte{7}, 16)) {
			t.Fatalf("Put of %v turned what it was handed to %x", x, whole)
		}
	}
	if b, e := Put(whole[:2], 0, 5, 10); e != api.OK || !bytes.Equal(b, []byte{7, 7, 10}) {
		t.Fatalf("behind what was refused Put is %x, %v", b, e)
	}
}

// What was answered may be written over, and the same call answers the same.
func TestTheSameCallsAnswerTheSame(t *testing.T) {
	for width := 1; width <= 8; width++ {
		for _, n := range numbers(width) {
			b, _ := Put([]byte{1, 2}, 0, width, n)
			clear(b)
			wantPut(t, []byte{1, 2}, 0, width, n, slowPut(0, width, n))
		}
	}
}

func TestGetTurnsNothing(t *testing.T) {
	for _, handed := range [][]byte{
		{0x1F, 0x9A, 0x0A, 0x55, 0x66},
		{0xFF, 0x80, 0x80},
		bytes.Repeat([]byte{0xFF}, 12),
		asMany(5, 1337),
	} {
		before := bytes.Clone(handed)
		for at := -1; at <= len(handed)+1; at++ {
			for width := range 10 {
				first := get(handed[:len(handed)-1], at, width)
				if !bytes.Equal(handed, before) {
					t.Fatalf("Get(%x, %d, %d) turned it to %x", before, at, width, handed)
				}
				if again := get(handed[:len(handed)-1], at, width); again != first {
					t.Fatalf("Get(%x, %d, %d) is %v, and then %v", before, at, width, first, again)
				}
			}
		}
	}
}
