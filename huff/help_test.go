package huff

import (
	"bytes"
	"fmt"
	"math/big"
	"math/rand"
	"slices"
	"sort"
	"strings"
	"testing"

	"turnbuckle/api"
)

// same are so many symbols of one length.
func same(count, length int) []int {
	return slices.Repeat([]int{length}, count)
}

// rising are the lengths from one to another.
func rising(from, to int) []int {
	var l []int
	for length := from; length <= to; length++ {
		l = append(l, length)
	}
	return l
}

// join are symbols behind others.
func join(parts ...[]int) []int {
	return slices.Concat(parts...)
}

// rightCodes are codes that may be, of every shape.
func rightCodes() [][]int {
	l := [][]int{
		nil,
		{},
		{0},
		same(256, 0),
		{1},
		{24},
		{0, 0, 5, 0},
		{1, 2, 3},
		{3, 2, 1},
		{2, 2, 2},
		{3, 1, 4, 2},
		{0, 3, 0, 1, 3, 0},
		{24, 1, 13, 24, 2, 24},
		rising(1, 24),
		join(rising(12, 24), rising(1, 11)),
		join([]int{24}, rising(2, 23), []int{0, 1}),
		join(rising(1, 23), []int{24}, same(232, 0)),
		same(255, 8),
		join(same(255, 8), []int{9}),
		join([]int{24}, same(255, 8)),
		join(same(127, 8), []int{0}, same(127, 8), []int{9}),
		join(same(3, 3), same(3, 5), same(3, 4), same(150, 9), same(97, 24)),
		same(256, 9),
		same(256, 24),
		join(same(254, 8), rising(9, 10)),
		spaced(),
	}
	for length := 1; length <= 24; length++ {
		l = append(l, same(min(256, 1<<length-1), length))
	}
	return append(l, slowFields())
}

// spaced are lengths all mixed up, with symbols between them that have no word.
func spaced() []int {
	l := make([]int, 256)
	for symbol := range l {
		l[symbol] = []int{9, 0, 24, 12, 0, 10, 9, 11}[symbol%8]
	}
	return l
}

// wrongCodes are codes that may not be.
func wrongCodes() [][]int {
	l := [][]int{
		{1, 1},
		{1, 2, 2},
		{1, 1, 1},
		{2, 1, 2, 24},
		{3, 1, 3, 2},
		same(4, 2),
		same(256, 1),
		same(256, 2),
		same(256, 7),
		same(256, 8),
		join(rising(1, 24), []int{24}),
		join([]int{24}, rising(1, 24)),
		join(rising(1, 24), []int{0, 0, 1}),
		join(same(255, 8), []int{8}),
		join(same(254, 8), []int{9, 9, 9}),
		join(same(254, 8), []int{7}),
		// Too many symbols, whatever their words.
		same(257, 0),
		same(257, 24),
		join(same(256, 0), []int{1}),
		join([]int{1}, same(256, 0)),
		join(same(256, 9), []int{0}),
		same(1000, 0),
		// The sum would be 2^32, which is 0 where it went round.
		same(512, 1),
		same(1024, 2),
		same(1<<16, 8),
		same(1<<20, 12),
		same(1<<16, 0),
	}
	for length := 1; length <= 7; length++ {
		l = append(l, same(1<<length, length))
	}
	for _, length := range noLengths() {
		l = append(l, []int{length}, []int{length, 1}, []int{1, 0, 2, length}, join(same(255, 0), []int{length}))
	}
	return l
}

// noLengths are lengths that no word has.
func noLengths() []int {
	return []int{-1, -2, -7, -8, -24, -39, -40, -41, -1 << 31, -1 << 62, -1 << 63, 25, 26, 31, 32, 33, 63, 64, 65, 88, 255, 256, 256 + 5, 1 << 16, 1<<32 + 5, 1 << 62, 1<<63 - 1}
}

// slowRight tells by fractions whether a code may be.
func slowRight(lengths []int) bool {
	sum := new(big.Rat)
	for _, length := range lengths {
		if length < 0 || length > 24 {
			return false
		}
		if length > 0 {
			sum.Add(sum, big.NewRat(1, 1<<length))
		}
	}
	return len(lengths) <= 256 && sum.Cmp(big.NewRat(1, 1)) < 0
}

// slowWords are the words as texts of 0 and 1, worked out as the chapter tells them; empty, where there is none.
func slowWords(lengths []int) []string {
	words := make([]string, len(lengths))
	ahead := ""
	for _, symbol := range inOrder(lengths) {
		word := strings.Repeat("0", lengths[symbol])
		if ahead != "" {
			word = next(ahead)
			word += strings.Repeat("0", lengths[symbol]-len(word))
		}
		words[symbol] = word
		ahead = word
	}
	return words
}

// inOrder are the symbols with a word, by rising length, of one length by rising number.
func inOrder(lengths []int) []int {
	var l []int
	for symbol, length := range lengths {
		if length > 0 {
			l = append(l, symbol)
		}
	}
	sort.SliceStable(l, func(i, j int) bool { return lengths[l[i]] < lengths[l[j]] })
	return l
}

// next is a text of 0 and 1, as a number, and 1.
func next(text string) string {
	i := strings.LastIndexByte(text, '0')
	return text[:i] + "1" + strings.Repeat("0", len(text)-i-1)
}

// slowEncode are symbols' bytes, by texts.
func slowEncode(lengths []int, symbols []byte) []byte {
	words := slowWords(lengths)
	var l []string
	for _, symbol := range symbols {
		l = append(l, words[symbol])
	}
	return filled(strings.Join(l, ""))
}

// filled are bits as bytes, with bits 1 up to the end of the last one.
func filled(text string) []byte {
	return packed(text + strings.Repeat("1", (8-len(text)%8)%8))
}

// packed are bits as bytes.
func packed(text string) []byte {
	if len(text)%8 != 0 {
		panic("no whole bytes: " + text)
	}
	b := make([]byte, len(text)/8)
	for i, bit := range []byte(text) {
		b[i/8] = b[i/8]*2 + bit - '0'
	}
	return b
}

// unpacked are bytes as bits.
func unpacked(b []byte) string {
	var text strings.Builder
	for _, x := range b {
		fmt.Fprintf(&text, "%08b", x)
	}
	return text.String()
}

// bitsOf is a word as a text.
func bitsOf(x Word) string {
	if x.Len == 0 {
		return ""
	}
	return fmt.Sprintf("%0*b", x.Len, x.Bits)
}

// slowDecode are the symbols of bytes, by texts, and whether there are any.
func slowDecode(lengths []int, b []byte) ([]byte, bool) {
	words := slowWords(lengths)
	text := unpacked(b)
	var out []byte
	for {
		symbol := slices.IndexFunc(words, func(word string) bool {
			return word != "" && strings.HasPrefix(text, word)
		})
		if symbol < 0 {
			return out, len(text) < 8 && !strings.Contains(text, "0")
		}
		out = append(out, byte(symbol))
		text = text[len(words[symbol]):]
	}
}

// slowFields are the lengths of the fields' code, byte by byte.
func slowFields() []int {
	l := make([]int, 256)
	for symbol := range l {
		x := string(rune(symbol))
		switch {
		case strings.Contains("aceinorst/-.012", x):
			l[symbol] = 5
		case strings.Contains("bdfghjklmpquvwxyz3456789 :;=,%_*\"?&+", x):
			l[symbol] = 7
		case symbol >= 33 && symbol <= 126:
			l[symbol] = 9
		default:
			l[symbol] = 13
		}
	}
	return l
}

// withWord are the symbols that have one.
func withWord(lengths []int) []byte {
	var l []byte
	for symbol, length := range lengths {
		if length > 0 {
			l = append(l, byte(symbol))
		}
	}
	return l
}

// someWithWord are the symbols of the first word and the last one, and of one between them.
func someWithWord(lengths []int) []byte {
	l := inOrder(lengths)
	if len(l) == 0 {
		return nil
	}
	return []byte{byte(l[0]), byte(l[len(l)/2]), byte(l[len(l)-1])}
}

// someSymbols are so many of a code's symbols, any ones.
func someSymbols(r *rand.Rand, lengths []int, count int) []byte {
	l := withWord(lengths)
	if len(l) == 0 {
		return nil
	}
	out := make([]byte, count)
	for i := range out {
		out[i] = l[r.Intn(len(l))]
	}
	return out
}

// anyCode is a code that may be: lengths that come at random, as long as there is room for them.
func anyCode(r *rand.Rand) []int {
	count, shortest := r.Intn(257), 1+r.Intn(24)
	l := make([]int, count)
	left := 1<<24 - 1
	for symbol := range l {
		length := shortest + r.Intn(25-shortest)
		if r.Intn(4) > 0 && 1<<(24-length) <= left {
			l[symbol] = length
			left -= 1 << (24 - length)
		}
	}
	r.Shuffle(len(l), func(i, j int) { l[i], l[j] = l[j], l[i] })
	return l
}

// wantEncoded asks what symbols are encoded to.
func wantEncoded(t *testing.T, lengths []int, symbols, want []byte) {
	t.Helper()
	b, e := Encode(lengths, symbols)
	if e != api.OK || !bytes.Equal(b, want) {
		t.Fatalf("Encode(%v, %x) is %x, %v, not %x", lengths, symbols, b, e, want)
	}
}

// notEncoded asks that symbols are refused.
func notEncoded(t *testing.T, lengths []int, symbols []byte) {
	t.Helper()
	if b, e := Encode(lengths, symbols); e != api.ErrArg || b != nil {
		t.Fatalf("Encode(%v, %x) is %x, %v", lengths, symbols, b, e)
	}
}

// wantDecoded asks what bytes are decoded to.
func wantDecoded(t *testing.T, lengths []int, b, want []byte) {
	t.Helper()
	symbols, e := Decode(lengths, b)
	if e != api.OK || !bytes.Equal(symbols, want) {
		t.Fatalf("Decode(%v, %x) is %x, %v, not %x", lengths, b, symbols, e, want)
	}
}

// notDecoded asks with which error bytes are refused.
func notDecoded(t *testing.T, lengths []int, b []byte, want api.Errno) {
	t.Helper()
	if symbols, e := Decode(lengths, b); e != want || symbols != nil {
		t.Fatalf("Decode(%v, %x) is %x, %v, not %v", lengths, b, symbols, e, want)
	}
}

// wantBoth asks that symbols are encoded to these bytes, and these decoded to the symbols.
func wantBoth(t *testing.T, lengths []int, symbols, b []byte) {
	t.Helper()
	wantEncoded(t, lengths, symbols, b)
	wantDecoded(t, lengths, b, symbols)
}

// wantAsSlow asks that bytes are decoded as the plain way does, and that what they are decoded to is encoded to them again (P12.2, P12.4).
func wantAsSlow(t *testing.T, lengths []int, b []byte) {
	t.Helper()
	want, are := slowDecode(lengths, b)
	if !are {
		notDecoded(t, lengths, b, api.ErrHuff)
		return
	}
	wantBoth(t, lengths, want, b)
}
