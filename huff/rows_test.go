package huff

import (
	"bytes"
	"math/rand"
	"slices"
	"testing"

	"turnbuckle/api"
)

// allBytes are all rows of bytes that symbols with no more than so many bytes can have, by their symbols.
func allBytes(t *testing.T, lengths []int, most int) map[string][]byte {
	t.Helper()
	out := map[string][]byte{}
	words := slowWords(lengths)
	var from func(symbols []byte, text string)
	from = func(symbols []byte, text string) {
		b := string(filled(text))
		if other, is := out[b]; is {
			t.Fatalf("%x and %x have the same bytes %x", symbols, other, b)
		}
		out[b] = symbols
		for symbol, word := range words {
			if word != "" && len(text)+len(word) <= 8*most {
				from(append(bytes.Clone(symbols), byte(symbol)), text+word)
			}
		}
	}
	from(nil, "")
	return out
}

// Of all rows of up to two bytes, those are decoded that some symbols have, and no others (P12.2, P12.4).
func TestAllRowsOfTwoBytes(t *testing.T) {
	for _, lengths := range [][]int{nil, {1}, {1, 2, 3}, {2, 2, 2}, {0, 3, 1, 0, 5}, {7}, {8}, {9, 3}, {4, 4, 4, 2}, same(15, 4), rising(1, 24), {16, 15, 2}, {17, 2}, same(255, 8)} {
		all := allBytes(t, lengths, 2)
		for length := range 3 {
			for n := range 1 << (8 * length) {
				b := []byte{byte(n >> 8), byte(n)}[2-length:]
				if symbols, is := all[string(b)]; is {
					wantBoth(t, lengths, symbols, b)
					continue
				}
				notDecoded(t, lengths, b, api.ErrHuff)
			}
		}
	}
}

// Codes of up to four symbols of short lengths, all of them.
func TestAllSmallCodes(t *testing.T) {
	for n := range 1 << 12 {
		lengths := []int{n & 7, n >> 3 & 7, n >> 6 & 7, n >> 9}
		if !slowRight(lengths) {
			if words, e := Words(lengths); Right(lengths) || e != api.ErrArg || words != nil {
				t.Fatalf("%v is right: %v, %v", lengths, words, e)
			}
			continue
		}
		if !Right(lengths) {
			t.Fatalf("Right(%v) is false", lengths)
		}
		wantWords(t, lengths)
		wantApart(t, lengths)
		for first := range 256 {
			wantAsSlow(t, lengths, []byte{byte(first)})
		}
	}
}

// P12.3 and P12.5

func TestRowsOfCodes(t *testing.T) {
	r := rand.New(rand.NewSource(12))
	for range 600 {
		lengths := anyCode(r)
		if !Right(lengths) {
			t.Fatalf("Right(%v) is false", lengths)
		}
		wantWords(t, lengths)
		wantApart(t, lengths)
		for range 20 {
			symbols := someSymbols(r, lengths, r.Intn(40))
			b := slowEncode(lengths, symbols)
			wantBoth(t, lengths, symbols, b)
			if len(b) == 0 {
				continue
			}
			wantAsSlow(t, lengths, b[:r.Intn(len(b))])
			turned := bytes.Clone(b)
			turned[r.Intn(len(b))] ^= 1 << r.Intn(8)
			wantAsSlow(t, lengths, turned)
			wantAsSlow(t, lengths, append(turned, byte(r.Intn(256))))
		}
	}
}

// Lengths that mostly have no room, or are none.
func TestRowsOfLengths(t *testing.T) {
	r := rand.New(rand.NewSource(24))
	for range 20000 {
		lengths := make([]int, r.Intn(260))
		for symbol := range lengths {
			lengths[symbol] = 24 - r.Intn(1+r.Intn(17))
		}
		if len(lengths) > 0 && r.Intn(3) == 0 {
			lengths[r.Intn(len(lengths))] = r.Intn(28) - 1
		}
		words, e := Words(lengths)
		if may := slowRight(lengths); Right(lengths) != may || (e == api.OK) != may || !may && words != nil {
			t.Fatalf("Right(%v) is %v, and Words %v, %v", lengths, !may, words, e)
		}
	}
}

// Any bytes, under codes that leave little room, so that many are symbols' bytes (P12.4).
func TestRowsOfBytes(t *testing.T) {
	r := rand.New(rand.NewSource(4))
	for _, lengths := range rightCodes() {
		for range 200 {
			b := make([]byte, r.Intn(12))
			r.Read(b)
			if len(b) > 0 && r.Intn(2) == 0 {
				b[len(b)-1] |= 1<<r.Intn(8) - 1
			}
			wantAsSlow(t, lengths, b)
		}
	}
}

// Every text is encoded in the fields' code, and decoded (P12.3).
func TestRowsOfTexts(t *testing.T) {
	r := rand.New(rand.NewSource(256))
	fields := Fields()
	for first := range 256 {
		wantBoth(t, fields, []byte{byte(first)}, slowEncode(fields, []byte{byte(first)}))
		for second := range 256 {
			text := []byte{byte(first), byte(second)}
			b, e := Encode(fields, text)
			if e != api.OK || len(b) != (fields[first]+fields[second]+7)/8 {
				t.Fatalf("Encode of %q is %x, %v", text, b, e)
			}
			wantDecoded(t, fields, b, text)
		}
	}
	for range 3000 {
		text := make([]byte, r.Intn(600))
		r.Read(text)
		if r.Intn(2) == 0 {
			for i := range text {
				text[i] = text[i]%95 + 32
			}
		}
		wantBoth(t, fields, text, slowEncode(fields, text))
	}
	for _, text := range []string{"", ":authority", "www.example.com", "cache-control", "max-age=60, stale-if-error=5", "Thu, 19 Nov 2026 08:12:31 GMT", "\"a\\b\"", "gzip\xFF\x00"} {
		wantBoth(t, fields, []byte(text), slowEncode(fields, []byte(text)))
	}
}

// A text of many bytes.
func TestLongTexts(t *testing.T) {
	r := rand.New(rand.NewSource(1))
	for _, lengths := range [][]int{Fields(), rising(1, 24), same(256, 24)} {
		symbols := someSymbols(r, lengths, 50000)
		b := slowEncode(lengths, symbols)
		wantBoth(t, lengths, symbols, b)
		notDecoded(t, lengths, append(b, 0xFF), api.ErrHuff)
	}
}

// R4 and R7

// behind are lists with room behind them that is somebody else's: the whole, and its beginning.
func behind[E any](list []E, rest E) ([]E, []E) {
	whole := append(slices.Clone(list), slices.Repeat([]E{rest}, 40)...)
	return whole, whole[:len(list)]
}

func TestWhatIsHandedInStaysAsItIs(t *testing.T) {
	for _, lengths := range append(rightCodes(), wrongCodes()...) {
		for _, b := range [][]byte{nil, {0}, {0, 1, 2}, {0x9B}, {0xFF, 0xFF}, withWord(lengths[:min(len(lengths), 256)])} {
			wholeLengths, someLengths := behind(lengths, 3)
			wholeBytes, someBytes := behind(b, 0x5A)
			beforeLengths, beforeBytes := slices.Clone(wholeLengths), slices.Clone(wholeBytes)
			Right(someLengths)
			Words(someLengths)
			encoded, _ := Encode(someLengths, someBytes)
			decoded, _ := Decode(someLengths, someBytes)
			if !slices.Equal(wholeLengths, beforeLengths) || !slices.Equal(wholeBytes, beforeBytes) {
				t.Fatalf("%v was turned to %v, or %x to %x", beforeLengths, wholeLengths, beforeBytes, wholeBytes)
			}
			clear(encoded[:cap(encoded)])
			clear(decoded[:cap(decoded)])
			if !slices.Equal(wholeBytes, beforeBytes) {
				t.Fatalf("what is answered shares %x", beforeBytes)
			}
		}
	}
}

// What was answered stays, though what was handed in is written over.
func TestWhatIsHandedInIsNotKept(t *testing.T) {
	lengths, symbols := []int{1, 2, 3}, []byte{1, 0, 2}
	words, _ := Words(lengths)
	encoded, _ := Encode(lengths, symbols)
	b := bytes.Clone(encoded)
	decoded, _ := Decode(lengths, b)
	clear(lengths)
	clear(symbols)
	clear(b)
	if !slices.Equal(words, []Word{{0, 1}, {2, 2}, {6, 3}}) || !bytes.Equal(encoded, []byte{0x9B}) || !bytes.Equal(decoded, []byte{1, 0, 2}) {
		t.Fatal(words, encoded, decoded)
	}
}

// What was answered may be written over, and the same calls answer the same.
func TestTheSameCallsAnswerTheSame(t *testing.T) {
	for _, lengths := range rightCodes() {
		symbols := withWord(lengths)
		b := slowEncode(lengths, symbols)
		for range 3 {
			wantWords(t, lengths)
			wantBoth(t, lengths, symbols, b)
			words, _ := Words(lengths)
			clear(words[:cap(words)])
			encoded, _ := Encode(lengths, symbols)
			clear(encoded[:cap(encoded)])
			decoded, _ := Decode(lengths, b)
			clear(decoded[:cap(decoded)])
		}
	}
	for range 3 {
		l := Fields()
		if !slices.Equal(l, slowFields()) {
			t.Fatalf("Fields() is %v", l)
		}
		l = l[:cap(l)]
		clear(l)
	}
}

// What is refused turns nothing of what comes behind it.
func TestWhatIsRefusedTurnsNothing(t *testing.T) {
	for _, wrong := range wrongCodes() {
		Words(wrong)
		notEncoded(t, wrong, []byte{0})
		notDecoded(t, wrong, []byte{0}, api.ErrArg)
		notEncoded(t, []int{1, 2, 3}, []byte{1, 0, 2, 3})
		notDecoded(t, []int{1, 2, 3}, []byte{0x9B, 0xFF}, api.ErrHuff)
		wantBoth(t, []int{1, 2, 3}, []byte{1, 0, 2}, []byte{0b10011011})
	}
}
