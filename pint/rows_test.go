package pint

import (
	"math/rand"
	"testing"

	"turnbuckle/api"
)

// wantAsSlow asks that what is got of any bytes is what the plain way gets, with any byte behind it, and is put in no more bytes (P11.2, P11.4, P11.5).
func wantAsSlow(t *testing.T, b []byte, at, width int) {
	t.Helper()
	want := slowGet(b, at, width)
	wantGot(t, b, at, width, want)
	if want.fault.Why != api.OK {
		return
	}
	wantGot(t, b[:want.next], at, width, want)
	again, e := Put(b[:at], want.flags, width, want.n)
	if e != api.OK || len(again) > want.next || len(again) != at+Size(width, want.n) {
		t.Fatalf("Get(%x, %d, %d) is %v, which is put in %x, %v", b, at, width, want, again, e)
	}
	wantGot(t, again, at, width, got{flags: want.flags, n: want.n, next: len(again)})
}

func TestOneByteAndTwo(t *testing.T) {
	for width := 1; width <= 8; width++ {
		for first := range 256 {
			wantAsSlow(t, []byte{byte(first)}, 0, width)
			for second := range 256 {
				wantAsSlow(t, []byte{byte(first), byte(second)}, 0, width)
				wantAsSlow(t, []byte{0xFF, byte(second), byte(first)}, 0, width)
			}
		}
	}
}

// mostly is a byte that another group follows, more often than not.
func mostly(r *rand.Rand) byte {
	switch r.Intn(8) {
	case 0:
		return byte(r.Intn(128))
	case 1:
		return 0x80
	case 2:
		return 0xFF
	}
	return byte(128 + r.Intn(128))
}

func TestRowsOfBytes(t *testing.T) {
	r := rand.New(rand.NewSource(11))
	for range 40000 {
		b := make([]byte, r.Intn(16))
		for i := range b {
			b[i] = mostly(r)
		}
		for width := 1; width <= 8; width++ {
			wantAsSlow(t, b, r.Intn(len(b)+1), width)
		}
	}
}

// Nine groups, of which the last one is next to what has room.
func TestRowsNextToTheHighestNumber(t *testing.T) {
	r := rand.New(rand.NewSource(62))
	for range 20000 {
		for width := 1; width <= 8; width++ {
			b := begun(width)
			for range 8 {
				b = append(b, mostly(r)|0x80)
			}
			b = append(b, byte(0x3E+r.Intn(3)), mostly(r))
			wantAsSlow(t, b, 0, width)
			b[9] |= 0x80
			wantAsSlow(t, b, 0, width)
			wantAsSlow(t, b[:10], 0, width)
		}
	}
}

// Numbers of all lengths, behind bytes of any kind (P11.3).
func TestRowsOfNumbers(t *testing.T) {
	r := rand.New(rand.NewSource(37))
	for range 40000 {
		width := 1 + r.Intn(8)
		n := int(r.Int63()>>1) >> r.Intn(62)
		flags := r.Intn(256) &^ full(width)
		head := make([]byte, r.Intn(5))
		r.Read(head)
		wantPut(t, head, flags, width, n, slowPut(flags, width, n))
		b, _ := Put(head, flags, width, n)
		wantGot(t, append(b, mostly(r), mostly(r)), len(head), width, got{flags: flags, n: n, next: len(b)})
	}
}
