package huff

import (
	"bytes"
	"slices"
	"strings"
	"testing"

	"turnbuckle/api"
)

// P12.1

func TestRight(t *testing.T) {
	for _, lengths := range rightCodes() {
		if !slowRight(lengths) {
			t.Fatalf("%v was meant to be right", lengths)
		}
		if !Right(lengths) {
			t.Errorf("Right(%v) is false", lengths)
		}
	}
	for _, lengths := range wrongCodes() {
		if slowRight(lengths) {
			t.Fatalf("%v was meant to be wrong", lengths)
		}
		if Right(lengths) {
			t.Errorf("Right of %d symbols, %v.., is true", len(lengths), lengths[:min(9, len(lengths))])
		}
	}
}

// The least room that may be left is a word of 24 bits: with all of it taken, a code may not be.
func TestRightNextToAllRoom(t *testing.T) {
	for length := 1; length <= 8; length++ {
		for more := length; more <= 24; more++ {
			l := join(same(1<<length-1, length), rising(length+1, more))
			if len(l) > 255 {
				continue
			}
			if !Right(l) {
				t.Errorf("Right(%v) is false", l)
			}
			if l = append(l, more); Right(l) {
				t.Errorf("Right(%v) is true", l)
			}
		}
	}
}

func TestRightOfEachLength(t *testing.T) {
	for length := -300; length <= 600; length++ {
		if may := length >= 0 && length <= 24; Right([]int{length}) != may {
			t.Errorf("Right({%d}) is %v", length, !may)
		}
	}
}

func TestRightOfManySymbols(t *testing.T) {
	for count := range 600 {
		for _, length := range []int{0, 9, 24} {
			if may := count <= 256 && slowRight(same(min(count, 256), length)); Right(same(count, length)) != may {
				t.Errorf("Right of %d symbols of the length %d is %v", count, length, !may)
			}
		}
	}
}

func TestWords(t *testing.T) {
	for _, x := range []struct {
		lengths []int
		words   []Word
	}{
		{nil, nil},
		{[]int{}, nil},
		{[]int{0}, []Word{{}}},
		{[]int{0, 0, 0}, []Word{{}, {}, {}}},
		{[]int{1}, []Word{{0, 1}}},
		{[]int{24}, []Word{{0, 24}}},
		{[]int{1, 2, 3}, []Word{{0, 1}, {2, 2}, {6, 3}}},
		{[]int{3, 2, 1}, []Word{{6, 3}, {2, 2}, {0, 1}}},
		{[]int{2, 2, 2}, []Word{{0, 2}, {1, 2}, {2, 2}}},
		{[]int{3, 1, 4, 2}, []Word{{6, 3}, {0, 1}, {14, 4}, {2, 2}}},
		{[]int{2, 0, 4, 2, 0, 4}, []Word{{0, 2}, {}, {8, 4}, {1, 2}, {}, {9, 4}}},
		{[]int{3, 3, 1}, []Word{{4, 3}, {5, 3}, {0, 1}}},
		{[]int{24, 1}, []Word{{1 << 23, 24}, {0, 1}}},
		{[]int{24, 0, 1, 24}, []Word{{1 << 23, 24}, {}, {0, 1}, {1<<23 + 1, 24}}},
	} {
		words, e := Words(x.lengths)
		if e != api.OK || !slices.Equal(words, x.words) {
			t.Errorf("Words(%v) is %v, %v, not %v", x.lengths, words, e, x.words)
		}
	}
}

// wantWords asks that a code's words are those that the plain way tells.
func wantWords(t *testing.T, lengths []int) {
	t.Helper()
	words, e := Words(lengths)
	if e != api.OK || len(words) != len(lengths) {
		t.Fatalf("Words(%v) is %v, %v", lengths, words, e)
	}
	for symbol, want := range slowWords(lengths) {
		if x := words[symbol]; x.Len != len(want) || x.Bits < 0 || bitsOf(x) != want || want == "" && x != (Word{}) {
			t.Fatalf("in Words(%v) the symbol %d has %v, not %s", lengths, symbol, x, want)
		}
	}
}

func TestWordsOfEveryShape(t *testing.T) {
	for _, lengths := range rightCodes() {
		wantWords(t, lengths)
	}
}

func TestWordsRefuses(t *testing.T) {
	for _, lengths := range wrongCodes() {
		if words, e := Words(lengths); e != api.ErrArg || words != nil {
			t.Errorf("Words of %d symbols, %v.., is %v, %v", len(lengths), lengths[:min(9, len(lengths))], words, e)
		}
	}
}

// The last word of a code that leaves the least room is all bits 1 but the last one.
func TestWordsNextToAllRoom(t *testing.T) {
	words, e := Words(rising(1, 24))
	if e != api.OK || len(words) != 24 {
		t.Fatal(words, e)
	}
	for i, x := range words {
		if x != (Word{Bits: 1<<(i+1) - 2, Len: i + 1}) {
			t.Errorf("the word of the symbol %d is %v", i, x)
		}
	}
}

func TestFields(t *testing.T) {
	l := Fields()
	if !slices.Equal(l, slowFields()) {
		t.Fatalf("Fields() is %v", l)
	}
	if !Right(l) {
		t.Fatal("the fields' code may not be")
	}
	count := map[int]int{}
	for _, length := range l {
		count[length]++
	}
	if len(count) != 4 || count[5] != 15 || count[7] != 17+7+12 || count[9] != 44 || count[13] != 161 {
		t.Fatalf("so many symbols have each length: %v", count)
	}
}

// The edges of what the chapter names, one by one.
func TestFieldsByName(t *testing.T) {
	l := Fields()
	for text, length := range map[string]int{
		"aceinorst/-.012":        5,
		"bdfghjklmpquvwxyz":      7,
		"3456789":                7,
		" :;=,%_*\"?&+":          7,
		"!#$'()<>@[\\]^`{|}~":    9,
		"ABCDEFGHIJKLMNOPQ":      9,
		"RSTUVWXYZ":              9,
		"\x00\x01\t\n\r\x1F\x7F": 13,
		"\x80\x81\xA0\xC3\xFE":   13,
		"\xFF":                   13,
	} {
		for _, symbol := range []byte(text) {
			if l[symbol] != length {
				t.Errorf("%q has the length %d, not %d", symbol, l[symbol], length)
			}
		}
	}
}

func TestFieldsWords(t *testing.T) {
	words, e := Words(Fields())
	if e != api.OK || len(words) != 256 {
		t.Fatal(words, e)
	}
	// By rising number: - . / 0 1 2 a c e ..; then the blank and ..; then ! and ..; then the byte 0.
	for symbol, want := range map[byte]Word{
		'-': {0, 5}, '.': {1, 5}, '/': {2, 5}, '0': {3, 5}, '1': {4, 5}, '2': {5, 5}, 'a': {6, 5}, 'c': {7, 5}, 't': {14, 5},
		' ': {60, 7}, '"': {61, 7}, '%': {62, 7}, 'z': {95, 7},
		'!': {96 << 2, 9}, '#': {96<<2 + 1, 9}, '~': {96<<2 + 43, 9},
		0x00: {428 << 4, 13}, 0x1F: {428<<4 + 31, 13}, 0x7F: {428<<4 + 32, 13}, 0x80: {428<<4 + 33, 13}, 0xFF: {428<<4 + 160, 13},
	} {
		if words[symbol] != want {
			t.Errorf("the word of %q is %v, not %v", symbol, words[symbol], want)
		}
	}
}

// P12.2

func TestEncodeTheExample(t *testing.T) {
	wantBoth(t, []int{1, 2, 3}, []byte{1, 0, 2}, []byte{0b10011011})
}

func TestEncodeAndDecode(t *testing.T) {
	for _, x := range []struct {
		lengths []int
		symbols []byte
		bits    string
	}{
		{nil, nil, ""},
		{[]int{0, 0}, nil, ""},
		{[]int{1, 2, 3}, nil, ""},
		{[]int{1, 2, 3}, []byte{}, ""},
		{[]int{1}, []byte{0}, "0 1111111"},
		{[]int{1}, bytes.Repeat([]byte{0}, 7), "0000000 1"},
		{[]int{1}, bytes.Repeat([]byte{0}, 8), "00000000"},
		{[]int{1}, bytes.Repeat([]byte{0}, 9), "00000000 0 1111111"},
		{[]int{1, 2, 3}, []byte{2}, "110 11111"},
		{[]int{1, 2, 3}, []byte{2, 2}, "110110 11"},
		{[]int{1, 2, 3}, []byte{2, 2, 1}, "11011010"},
		{[]int{1, 2, 3}, []byte{2, 2, 2}, "110110110 1111111"},
		{[]int{1, 2, 3}, []byte{2, 2, 0}, "1101100 1"},
		{[]int{3, 2, 1}, []byte{0, 1, 2}, "110100 11"},
		{[]int{24}, []byte{0}, "000000000000000000000000"},
		{[]int{24, 24}, []byte{1, 0}, "000000000000000000000001 000000000000000000000000"},
		{[]int{1, 24}, []byte{1, 0, 1}, "100000000000000000000000 0 100000000000000000000000 1111111"},
		{[]int{23, 1}, []byte{0}, "10000000000000000000000 1"},
		{rising(1, 24), []byte{23}, "111111111111111111111110"},
		{rising(1, 24), []byte{22}, "11111111111111111111110 1"},
		{rising(1, 24), []byte{23, 0, 23}, "111111111111111111111110 0 111111111111111111111110 1111111"},
		{rising(1, 24), []byte{6}, "1111110 1"},
		{rising(1, 24), []byte{7}, "11111110"},
		{rising(1, 24), []byte{8}, "111111110 1111111"},
		{[]int{0, 4, 0, 2, 4}, []byte{3, 1, 4}, "00 0100 0101 111111"},
		{Fields(), []byte("a"), "00110 111"},
		{Fields(), []byte("az ~\x00"), "00110 1011111 0111100 110101011 1101011000000 1111111"},
	} {
		wantBoth(t, x.lengths, x.symbols, packed(strings.ReplaceAll(x.bits, " ", "")))
	}
}

// Symbols that have no word, or are none at all, wherever they stand.
func TestEncodeRefusesSymbols(t *testing.T) {
	for _, lengths := range [][]int{nil, {0}, {1}, {1, 0, 2}, {0, 1, 2, 0}, {24, 1, 0}, same(256, 0), same(255, 8), join([]int{1, 0}, same(100, 12))} {
		good := withWord(lengths)
		for symbol := range 256 {
			if symbol < len(lengths) && lengths[symbol] > 0 {
				wantEncoded(t, lengths, []byte{byte(symbol)}, slowEncode(lengths, []byte{byte(symbol)}))
				continue
			}
			bad := []byte{byte(symbol)}
			notEncoded(t, lengths, bad)
			notEncoded(t, lengths, slices.Concat(good, bad))
			notEncoded(t, lengths, slices.Concat(bad, good))
			notEncoded(t, lengths, slices.Concat(good, bad, good))
		}
	}
}

// A code that may not be is told of, whatever symbols and bytes there are.
func TestEncodeAndDecodeRefuseCodes(t *testing.T) {
	for _, lengths := range wrongCodes() {
		for _, b := range [][]byte{nil, {}, {0}, {1}, {0, 1, 2}, {0xFF}, {0xFF, 0xFF}, {0x80}, bytes.Repeat([]byte{0}, 9), bytes.Repeat([]byte{0xFF}, 9)} {
			if x, e := Encode(lengths, b); e != api.ErrArg || x != nil {
				t.Fatalf("Encode of a code of %d symbols, %v.., and %x is %x, %v", len(lengths), lengths[:min(9, len(lengths))], b, x, e)
			}
			if x, e := Decode(lengths, b); e != api.ErrArg || x != nil {
				t.Fatalf("Decode of a code of %d symbols, %v.., and %x is %x, %v", len(lengths), lengths[:min(9, len(lengths))], b, x, e)
			}
		}
	}
}

func TestDecodeRefuses(t *testing.T) {
	for _, x := range []struct {
		lengths []int
		bits    string
	}{
		// A word of which bits are missing, all ones among them or not.
		{[]int{24}, "00000000"},
		{[]int{24}, "00000000 00000000"},
		{[]int{1, 24}, "10000000"},
		{[]int{1, 24}, "10000000 00000000"},
		{[]int{1, 24}, "00000010"},
		{[]int{0, 2, 9}, "01000000"},
		{[]int{0, 2, 9}, "00010000"},
		// Bits behind the last word that are not all 1.
		{[]int{2, 2, 2}, "00000011 00111111"},
		{[]int{2, 24}, "00000001"},
		{[]int{2, 24}, "00000010"},
		{[]int{3}, "000 11110"},
		{[]int{3}, "000 01111"},
		{[]int{3}, "000 00000"},
		{[]int{3}, "000000 00"},
		{[]int{3}, "000000 10"},
		{[]int{3}, "000000 01"},
		{[]int{7}, "0000000 0"},
		// A whole byte of ones too much, or more of them.
		{[]int{1}, "11111111"},
		{[]int{1}, "00000000 11111111"},
		{[]int{1, 2, 3}, "10011011 11111111"},
		{[]int{1, 2, 3}, "110 11111 11111111 11111111"},
		{[]int{8}, "00000000 11111111"},
		{[]int{16, 2}, "00111111 11111111"},
		{rising(1, 24), "11111111"},
		{rising(1, 24), "11111111 11111111"},
		{rising(1, 24), "11111111 11111111 11111111"},
		{rising(1, 24), "11111111 11111111 11111111 11111111"},
		{rising(1, 24), "11111111 11111111 11111111 01111111"},
		{rising(1, 24), "01111111 11111111"},
		{rising(1, 24), "11111110 11111111"},
		// Words that nobody has.
		{[]int{1}, "10000000"},
		{[]int{1}, "01011111"},
		{[]int{1}, "00000010"},
		{[]int{2, 2, 2}, "11000000"},
		{[]int{2, 2}, "10111111"},
		{[]int{24}, "00000000 00000000 00000001"},
		{[]int{24}, "00000000 00000000 00000001 00000000 00000000 00000000"},
		{[]int{24}, "00000000 00000000 00000000 00000000 00000000 00000010"},
		{[]int{24}, "10000000 00000000 00000000"},
		// A code without any words.
		{nil, "00000000"},
		{nil, "11111111"},
		{nil, "01111111 11111111"},
		{same(256, 0), "00000000"},
		{same(256, 0), "11111111"},
		{same(256, 0), "10101010 10101010 10101010 10101010"},
	} {
		notDecoded(t, x.lengths, packed(strings.ReplaceAll(x.bits, " ", "")), api.ErrHuff)
	}
}

func TestDecodeOfNoBytes(t *testing.T) {
	for _, lengths := range rightCodes() {
		wantDecoded(t, lengths, nil, nil)
		wantDecoded(t, lengths, []byte{}, nil)
		wantEncoded(t, lengths, nil, nil)
		wantEncoded(t, lengths, []byte{}, nil)
	}
}

// All bits 1 are no symbols' bytes, however many they are.
func TestDecodeOfAllOnes(t *testing.T) {
	for _, lengths := range rightCodes() {
		for count := 1; count <= 20; count++ {
			notDecoded(t, lengths, bytes.Repeat([]byte{0xFF}, count), api.ErrHuff)
		}
	}
}

// What is left of the byte is one bit after the other, from none to seven: each of them must be 1.
func TestDecodeOfWhatFillsTheByte(t *testing.T) {
	for _, lengths := range rightCodes() {
		for _, symbol := range someWithWord(lengths) {
			for count := 1; count <= 8; count++ {
				symbols := bytes.Repeat([]byte{symbol}, count)
				b := slowEncode(lengths, symbols)
				wantBoth(t, lengths, symbols, b)
				notDecoded(t, lengths, append(bytes.Clone(b), 0xFF), api.ErrHuff)
				fill := 8*len(b) - count*lengths[symbol]
				for i := range fill {
					turned := bytes.Clone(b)
					turned[len(b)-1] ^= 1 << i
					wantAsSlow(t, lengths, turned)
				}
				wantAsSlow(t, lengths, b[:len(b)-1])
			}
		}
	}
}

// P12.5

func TestNoWordBeginsAnother(t *testing.T) {
	for _, lengths := range rightCodes() {
		wantApart(t, lengths)
	}
}

// wantApart asks that no word begins another one, and that none is all bits 1.
func wantApart(t *testing.T, lengths []int) {
	t.Helper()
	words, e := Words(lengths)
	if e != api.OK {
		t.Fatalf("Words(%v) is %v", lengths, e)
	}
	for i, x := range words {
		if x.Len == 0 {
			continue
		}
		if x.Bits < 0 || x.Bits >= 1<<x.Len-1 {
			t.Fatalf("in Words(%v) the symbol %d has %v", lengths, i, x)
		}
		for j, y := range words {
			if i != j && y.Len >= x.Len && y.Bits>>(y.Len-x.Len) == x.Bits {
				t.Fatalf("in Words(%v) the word of %d begins that of %d", lengths, i, j)
			}
		}
	}
}
