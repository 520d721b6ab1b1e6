package tag

import (
	"bytes"
	"encoding/binary"
	"hash/fnv"
	"math"
	"math/big"
	"slices"
	"strings"
	"testing"

	"turnbuckle/api"
)

// known is a tag that was worked out elsewhere: the chapter's examples, and the words of the FNV-1a test suite.
type known struct {
	key   uint64
	bytes string
	tag   uint64
}

func knowns() []known {
	return []known{
		{0, "", 0xCBF29CE484222325},
		{0, "a", 0xAF63DC4C8601EC8C},
		{0, "b", 0xAF63DF4C8601F1A5},
		{0, "foobar", 0x85944171F73967E8},
		{1, "", 0xCBF29CE484222324},
		{0xCBF29CE484222325, "", 0},
		{0xCBF29CE484222325, "\x00", 0},
		{0xCBF29CE484222325, "\x01", 0x100000001B3},
		{0xCBF29CE484222325, "\x80", 0x80000000D980},
		{math.MaxUint64, "", 0x340D631B7BDDDCDA},
	}
}

func keys() []uint64 {
	return []uint64{0, 1, 2, 0xFF, 0x100, 0xCBF29CE484222325, 1 << 63, 0x0123456789ABCDEF, math.MaxUint64 - 1, math.MaxUint64}
}

// lists are bytes of every length that the chapter names, and of some more up to a datagram's.
func lists() [][]byte {
	all := [][]byte{nil, {}, {0x00}, {0xFF}, {0x80, 0x00}, []byte("foobar"), bytes.Repeat([]byte{0}, 8), bytes.Repeat([]byte{0xFF}, 8)}
	for _, length := range []int{1, 2, 3, 6, 7, 8, 9, 15, 16, 17, 63, 64, 65, 255, 256, 257, api.MaxGram - 8, api.MaxGram} {
		all = append(all, mixed(length))
	}
	return all
}

// mixed are bytes of which each hangs on its place.
func mixed(length int) []byte {
	b := make([]byte, length)
	for i := range b {
		b[i] = byte(i*i*31 + i*7 + 200)
	}
	return b
}

// slow is a tag worked out with numbers that have no end, of which the low 64 bits are taken by dividing.
func slow(key uint64, b []byte) uint64 {
	word := new(big.Int).Lsh(big.NewInt(1), 64)
	times := big.NewInt(0x100000001B3)
	tag := new(big.Int).SetUint64(0xCBF29CE484222325)
	tag.Xor(tag, new(big.Int).SetUint64(key))
	for _, x := range b {
		tag.Xor(tag, big.NewInt(int64(x)))
		tag.Mul(tag, times)
		tag.Mod(tag, word)
	}
	return tag.Uint64()
}

// highFirst are a tag's bytes.
func highFirst(tag uint64) []byte {
	return binary.BigEndian.AppendUint64(nil, tag)
}

// refused asks that nothing is opened.
func refused(t *testing.T, what string, key uint64, b []byte) {
	t.Helper()
	if got, e := Open(key, b); e != api.ErrTag || got != nil {
		t.Fatalf("%s: Open(%x, %x) is %x, %v", what, key, b, got, e)
	}
}

// P2.1

func TestOf(t *testing.T) {
	for _, x := range knowns() {
		if got := Of(x.key, []byte(x.bytes)); got != x.tag {
			t.Errorf("Of(%x, %q) is %X, not %X", x.key, x.bytes, got, x.tag)
		}
	}
	for _, b := range lists() {
		hash := fnv.New64a()
		hash.Write(b)
		if got := Of(0, b); got != hash.Sum64() {
			t.Errorf("Of(0, %x) is %X, not %X", b, got, hash.Sum64())
		}
		for _, key := range keys() {
			if got, want := Of(key, b), slow(key, b); got != want {
				t.Errorf("Of(%x, %x) is %X, not %X", key, b, got, want)
			}
		}
	}
}

func TestSeal(t *testing.T) {
	want := []byte{'a', 0xAF, 0x63, 0xDC, 0x4C, 0x86, 0x01, 0xEC, 0x8C}
	if got := Seal(0, []byte("a")); !bytes.Equal(got, want) {
		t.Errorf("Seal(0, a) is %x, not %x", got, want)
	}
	for _, none := range [][]byte{nil, {}} {
		want := []byte{0xCB, 0xF2, 0x9C, 0xE4, 0x84, 0x22, 0x23, 0x25}
		if got := Seal(0, none); !bytes.Equal(got, want) {
			t.Errorf("Seal(0, no bytes) is %x, not %x", got, want)
		}
	}
	for _, b := range lists() {
		for _, key := range keys() {
			want := slices.Concat(b, highFirst(slow(key, b)))
			if got := Seal(key, b); !bytes.Equal(got, want) {
				t.Errorf("Seal(%x, %x) is %x, not %x", key, b, got, want)
			}
		}
	}
}

func TestOpen(t *testing.T) {
	sealed := []byte{'a', 0xAF, 0x63, 0xDC, 0x4C, 0x86, 0x01, 0xEC, 0x8C}
	if got, e := Open(0, sealed); e != api.OK || string(got) != "a" {
		t.Errorf("Open(0, %x) is %x, %v", sealed, got, e)
	}
	for _, b := range lists() {
		for _, key := range keys() {
			sealed := slices.Concat(b, highFirst(slow(key, b)))
			if got, e := Open(key, sealed); e != api.OK || !bytes.Equal(got, b) {
				t.Errorf("Open(%x, %x) is %x, %v", key, sealed, got, e)
			}
		}
	}
}

func TestOpenRefusesFewerThanEightBytes(t *testing.T) {
	for _, key := range keys() {
		refused(t, "no bytes", key, nil)
		refused(t, "no bytes", key, []byte{})
		for length := range 8 {
			refused(t, "zeroes", key, make([]byte, length))
			refused(t, "a tag cut behind", key, highFirst(Of(key, nil))[:length])
			refused(t, "a tag cut ahead", key, highFirst(Of(key, nil))[8-length:])
		}
	}
}

func TestOpenOfJustEightBytes(t *testing.T) {
	for _, key := range keys() {
		tag := Of(key, nil)
		if got, e := Open(key, highFirst(tag)); e != api.OK || len(got) != 0 {
			t.Errorf("Open(%x, the tag of no bytes) is %x, %v", key, got, e)
		}
		refused(t, "one more", key, highFirst(tag+1))
		refused(t, "all bits turned", key, highFirst(^tag))
		if tag != 0 {
			refused(t, "zeroes", key, make([]byte, 8))
		}
	}
}

func TestOpenRefusesTagsThatDoNotFit(t *testing.T) {
	for _, key := range keys() {
		if Of(key, nil) == 0 {
			continue // zeroes have the tag 0 under this key, however many they are: one fewer of them fits, too
		}
		for _, b := range lists() {
			tag := highFirst(Of(key, b))
			lowFirst := slices.Clone(tag)
			slices.Reverse(lowFirst)
			if !bytes.Equal(lowFirst, tag) {
				refused(t, "the lowest byte first", key, slices.Concat(b, lowFirst))
			}
			if len(b) > 0 {
				refused(t, "the tag ahead", key, slices.Concat(tag, b, []byte{1}))
			}
			refused(t, "the tag of other bytes", key, slices.Concat(b, []byte{7}, tag))
			refused(t, "one byte too few", key, slices.Concat(b, tag[:7]))
			refused(t, "one byte too many", key, slices.Concat(b, tag, []byte{1}))
			refused(t, "one less", key, slices.Concat(b, highFirst(Of(key, b)-1)))
		}
	}
}

// P2.2

func TestWhatWasSealedIsOpened(t *testing.T) {
	for length := range 300 {
		b := mixed(length)
		for _, key := range keys() {
			got, e := Open(key, Seal(key, b))
			if e != api.OK || !bytes.Equal(got, b) {
				t.Fatalf("%x sealed under %x is opened as %x, %v", b, key, got, e)
			}
		}
	}
	b := []byte(strings.Repeat("turn", 1<<14))
	if got, e := Open(3, Seal(3, b)); e != api.OK || !bytes.Equal(got, b) {
		t.Fatalf("%d bytes are opened as %d, %v", len(b), len(got), e)
	}
}

func TestWhatWasSealedTwiceIsOpenedTwice(t *testing.T) {
	inner := Seal(1, []byte("foobar"))
	got, e := Open(2, Seal(2, inner))
	if e != api.OK || !bytes.Equal(got, inner) {
		t.Fatalf("the outer one is %x, %v", got, e)
	}
	if got, e = Open(1, got); e != api.OK || string(got) != "foobar" {
		t.Fatalf("the inner one is %x, %v", got, e)
	}
}

// P2.3

func TestNothingIsOpenedWithOneByteTurned(t *testing.T) {
	for _, b := range [][]byte{nil, {0}, {0xFF}, []byte("foobar"), mixed(7), mixed(8), mixed(9), mixed(40)} {
		for _, key := range []uint64{0, 0xCBF29CE484222325, 0x0123456789ABCDEF, math.MaxUint64} {
			sealed := Seal(key, b)
			for at, was := range sealed {
				for by := 1; by < 256; by++ {
					sealed[at] = was ^ byte(by)
					refused(t, "one byte turned", key, sealed)
				}
				sealed[at] = was
			}
			if _, e := Open(key, sealed); e != api.OK {
				t.Fatal("turned back it is opened no more", e)
			}
		}
	}
}

func TestNothingIsOpenedOfAWholeDatagramWithOneByteTurned(t *testing.T) {
	sealed := Seal(math.MaxUint64, mixed(api.MaxGram-8))
	for at, was := range sealed {
		for _, by := range []byte{0x01, 0x80, 0xFF} {
			sealed[at] = was ^ by
			refused(t, "one byte turned", math.MaxUint64, sealed)
		}
		sealed[at] = was
	}
}

func TestNothingIsOpenedUnderAnotherKey(t *testing.T) {
	for _, b := range lists() {
		for _, key := range keys() {
			sealed := Seal(key, b)
			for bit := range 64 {
				refused(t, "one bit of the key turned", key^1<<bit, sealed)
			}
			for _, other := range append(keys(), key+1, key-1, ^key) {
				if other != key {
					refused(t, "another key", other, sealed)
				}
			}
		}
	}
}

// P2.4

func TestBytesThatDifferInOneByteHaveUnlikeTags(t *testing.T) {
	for _, key := range []uint64{0, 1, 0xCBF29CE484222325, math.MaxUint64} {
		for _, length := range []int{1, 2, 7, 8, 9, 33} {
			b := mixed(length)
			for at, was := range b {
				seen := map[uint64]int{}
				for x := range 256 {
					b[at] = byte(x)
					tag := Of(key, b)
					if other, there := seen[tag]; there {
						t.Fatalf("with %x and with %x at %d of %d bytes the tag is %X", other, x, at, length, tag)
					}
					seen[tag] = x
				}
				b[at] = was
			}
		}
	}
}

// R4

func TestWhatIsHandedInIsNotTurned(t *testing.T) {
	whole := mixed(64)
	copy(whole[20:], Seal(5, whole[10:20]))
	before := bytes.Clone(whole)
	Of(5, whole[:10])
	Seal(5, whole[:10])
	Seal(5, whole[:0])
	Open(5, whole[20:38])
	Open(5, whole[20:40])
	Open(5, whole[:3])
	if !bytes.Equal(whole, before) {
		t.Fatalf("%x was turned to %x", before, whole)
	}
}

func TestWhatIsAnsweredIsTheCallers(t *testing.T) {
	whole := mixed(64)
	before := bytes.Clone(whole)
	clear(Seal(5, whole[:10]))
	clear(Seal(5, whole[:0]))
	if !bytes.Equal(whole, before) {
		t.Fatalf("what Seal answered is shared: %x was turned to %x", before, whole)
	}
	sealed := Seal(5, []byte("foobar"))
	before = bytes.Clone(sealed)
	got, e := Open(5, sealed)
	if e != api.OK {
		t.Fatal(e)
	}
	clear(got[:cap(got)])
	if !bytes.Equal(sealed, before) {
		t.Fatalf("what Open answered is shared: %x was turned to %x", before, sealed)
	}
}

func TestWhatIsHandedInIsNotKept(t *testing.T) {
	b := []byte("foobar")
	sealed := Seal(5, b)
	before := bytes.Clone(sealed)
	clear(b)
	if !bytes.Equal(sealed, before) {
		t.Fatalf("Seal kept what it was handed: %x was turned to %x", before, sealed)
	}
	got, e := Open(5, sealed)
	if e != api.OK {
		t.Fatal(e)
	}
	clear(sealed)
	if string(got) != "foobar" {
		t.Fatalf("Open kept what it was handed: it answers %q now", got)
	}
	if again, e := Open(5, before); e != api.OK || string(again) != "foobar" {
		t.Fatalf("Open answers %q, %v at another time", again, e)
	}
}
