package frames

import (
	"bytes"
	"encoding/hex"
	"math"
	"math/rand"
	"slices"
	"strings"
	"testing"

	"turnbuckle/api"
)

const highest = 1<<62 - 1

// told is a frame and its bytes.
type told struct {
	name  string
	frame api.Frame
	bytes string
}

// tolds are frames of every Kind, with their bytes as the chapter's table tells them.
func tolds() []told {
	top := "FFFFFFFFFFFFFFFF"
	return []told{
		{"padding", api.Frame{Kind: 0}, "00"},
		{"ping", api.Frame{Kind: 1}, "01"},
		{"handshake", api.Frame{Kind: 30}, "1E"},
		{"the chapter's ack", api.Frame{Kind: 2, Spans: spans(2, 3, 7, 9)}, "02 09 00 01 02 02 01"},
		{"ack of 0", api.Frame{Kind: 2, Spans: spans(0, 0)}, "02 00 00 00 00"},
		{"ack of the last number", api.Frame{Kind: 2, N: 5, Spans: spans(highest, highest)}, "02" + top + "05 00 00"},
		{"ack of all numbers", api.Frame{Kind: 2, N: highest, Spans: spans(0, highest)}, "02" + top + top + "00" + top},
		{"ack of the first and the last number", api.Frame{Kind: 2, Spans: spans(0, 0, highest, highest)}, "02" + top + "00 01 00 FFFFFFFFFFFFFFFD 00"},
		{"ack with one number left out", api.Frame{Kind: 2, N: 64, Spans: spans(0, 1, 3, 3, 5, 100)}, "02 4064 4040 02 405F 00 00 00 01"},
		{"reset", api.Frame{Kind: 4, Stream: 3, Code: 7, Offset: 1000}, "04 03 07 43E8"},
		{"reset of zeroes", api.Frame{Kind: 4}, "04 00 00 00"},
		{"reset of the highest", api.Frame{Kind: 4, Stream: highest, Code: highest, Offset: highest}, "04" + top + top + top},
		{"stop", api.Frame{Kind: 5, Stream: 63, Code: 64}, "05 3F 4040"},
		{"stop of zeroes", api.Frame{Kind: 5}, "05 00 00"},
		{"stop of the highest", api.Frame{Kind: 5, Stream: highest, Code: highest}, "05" + top + top},
		{"stream", api.Frame{Kind: 8, Stream: 4, Offset: 16384, Data: []byte("abc")}, "0E 04 80004000 03 616263"},
		{"stream of zeroes", api.Frame{Kind: 8}, "0E 00 00 00"},
		{"stream that ends", api.Frame{Kind: 8, Stream: 1, Offset: 2, Data: []byte{0xFF}, Fin: true}, "0F 01 02 01 FF"},
		{"stream that ends of no bytes", api.Frame{Kind: 8, Stream: 1, Offset: 2, Fin: true}, "0F 01 02 00"},
		{"stream of the highest", api.Frame{Kind: 8, Stream: highest, Offset: highest, Fin: true}, "0F" + top + top + "00"},
		{"stream of the last byte", api.Frame{Kind: 8, Offset: highest - 1, Data: []byte{9}}, "0E 00 FFFFFFFFFFFFFFFE 01 09"},
		{"limit of all", api.Frame{Kind: 16, N: 1 << 30}, "10 C000000040000000"},
		{"limit of all, 0", api.Frame{Kind: 16}, "10 00"},
		{"limit of all, the highest", api.Frame{Kind: 16, N: highest}, "10" + top},
		{"limit of a stream", api.Frame{Kind: 17, Stream: 9, N: 4096}, "11 09 5000"},
		{"limit of a stream, 0", api.Frame{Kind: 17}, "11 00 00"},
		{"limit of a stream, the highest", api.Frame{Kind: 17, Stream: highest, N: highest}, "11" + top + top},
		{"limit of streams", api.Frame{Kind: 18, N: 16}, "12 10"},
		{"limit of streams, 0", api.Frame{Kind: 18}, "12 00"},
		{"limit of streams, the highest", api.Frame{Kind: 18, N: highest}, "12" + top},
		{"close", api.Frame{Kind: 28, Code: 300, Data: []byte("bye")}, "1C 412C 03 627965"},
		{"close of zeroes", api.Frame{Kind: 28}, "1C 00 00"},
		{"close of the highest", api.Frame{Kind: 28, Code: highest, Data: []byte{0}}, "1C" + top + "01 00"},
	}
}

// kinds are all there are.
func kinds() []int {
	return []int{0, 1, 2, 4, 5, 8, 16, 17, 18, 28, 30}
}

// noKinds are numbers around them, and the types of a Stream that are no Kind.
func noKinds() []int {
	all := []int{math.MinInt, -1 << 62, -8, -2, -1, 64, 0x4001, 256, 256 + 8, 1 << 32, 1<<32 + 1, 1<<62 + 2, highest, math.MaxInt}
	for kind := range 64 {
		if !slices.Contains(kinds(), kind) {
			all = append(all, kind)
		}
	}
	return all
}

// outside are numbers that no frame tells.
func outside() []int {
	return []int{-1, -2, -64, -1 << 62, math.MinInt, 1 << 62, 1<<62 + 1, math.MaxInt}
}

// spans are From and To by turns.
func spans(ends ...int) []api.Span {
	var l []api.Span
	for i := 0; i < len(ends); i += 2 {
		l = append(l, api.Span{From: ends[i], To: ends[i+1]})
	}
	return l
}

// single are so many spans of a number each, with one left out between two.
func single(count int) []api.Span {
	var l []api.Span
	for i := range count {
		l = append(l, api.Span{From: 2 * i, To: 2 * i})
	}
	return l
}

// written are bytes in hexadecimal, with blanks between.
func written(text string) []byte {
	b, err := hex.DecodeString(strings.ReplaceAll(text, " ", ""))
	if err != nil {
		panic(err)
	}
	return b
}

// mixed are bytes of which each hangs on its place.
func mixed(length int) []byte {
	b := make([]byte, length)
	for i := range b {
		b[i] = byte(i*i*31 + i*7 + 200)
	}
	return b
}

// plain is a frame of a kind with what it needs, and no more.
func plain(kind int) api.Frame {
	f := api.Frame{Kind: kind}
	if kind == api.Ack {
		f.Spans = spans(0, 0)
	}
	return f
}

// pings are as many frames.
func pings(count int) []api.Frame {
	return slices.Repeat([]api.Frame{{Kind: api.Ping}}, count)
}

// copied shares nothing.
func copied(l []api.Frame) []api.Frame {
	out := slices.Clone(l)
	for i, f := range l {
		out[i].Data = bytes.Clone(f.Data)
		out[i].Spans = slices.Clone(f.Spans)
	}
	return out
}

// alike is Same, asked otherwise.
func alike(a, b []api.Frame) bool {
	if len(a) != len(b) {
		return false
	}
	for i, x := range a {
		y := b[i]
		if !bytes.Equal(x.Data, y.Data) || !slices.Equal(x.Spans, y.Spans) {
			return false
		}
		numbersOfX := [...]int{x.Kind, x.Stream, x.Offset, x.N, x.Code}
		numbersOfY := [...]int{y.Kind, y.Stream, y.Offset, y.N, y.Code}
		if numbersOfX != numbersOfY || x.Fin != y.Fin {
			return false
		}
	}
	return true
}

// wantMay asks May, and that Encode refuses just what may not be told (or has no room).
func wantMay(t *testing.T, what string, f api.Frame, want bool) {
	t.Helper()
	if got := May(f); got != want {
		t.Errorf("%s: May(%v) is %v", what, f, got)
	}
	b, e := Encode([]api.Frame{f})
	if want && e == api.ErrArg || !want && (e != api.ErrArg || b != nil) {
		t.Errorf("%s: Encode(%v) is %x, %v", what, f, b, e)
	}
}

// wantEncoded asks that frames have these bytes.
func wantEncoded(t *testing.T, what string, l []api.Frame, want []byte) {
	t.Helper()
	if got, e := Encode(l); e != api.OK || !bytes.Equal(got, want) {
		t.Errorf("%s: Encode is %x, %v, not %x", what, got, e, want)
	}
}

// notEncoded asks that frames are refused.
func notEncoded(t *testing.T, what string, l []api.Frame, want api.Errno) {
	t.Helper()
	if got, e := Encode(l); e != want || got != nil {
		t.Errorf("%s: Encode is %x, %v, not %v", what, got, e, want)
	}
}

// wantDecoded asks that bytes are these frames.
func wantDecoded(t *testing.T, what string, b []byte, want ...api.Frame) {
	t.Helper()
	if got, fault := Decode(b); fault != (api.Fault{}) || !alike(got, want) {
		t.Errorf("%s: Decode(%x) is %v, %v, not %v", what, b, got, fault, want)
	}
}

// notDecoded asks for a fault in bytes.
func notDecoded(t *testing.T, what string, b []byte, why api.Errno, at int) {
	t.Helper()
	if got, fault := Decode(b); got != nil || fault != (api.Fault{Why: why, At: at}) {
		t.Errorf("%s: Decode(%x) is %v, %v, not the fault %d at %d", what, b, got, fault, int(why), at)
	}
}

// P4.1, May

func TestMayOfEveryKind(t *testing.T) {
	for _, x := range tolds() {
		wantMay(t, x.name, x.frame, true)
	}
	for _, kind := range kinds() {
		wantMay(t, "plain", plain(kind), true)
	}
	for _, kind := range noKinds() {
		wantMay(t, "a Kind that is none", api.Frame{Kind: kind}, false)
		wantMay(t, "a Kind that is none", api.Frame{Kind: kind, Spans: spans(1, 2)}, false)
		wantMay(t, "a Kind that is none", api.Frame{Kind: kind, Stream: 1, Data: []byte{1}}, false)
	}
}

// owned are the letters of a kind's fields: Stream, Code, Offset, N, bytes (Data), Fin, and G for Spans.
func owned(kind int) string {
	switch kind {
	case api.Ack:
		return "NG"
	case api.Reset:
		return "SCO"
	case api.Stop:
		return "SC"
	case api.Stream:
		return "SODF"
	case api.MaxData, api.MaxOpen:
		return "N"
	case api.MaxOn:
		return "SN"
	case api.Close:
		return "CD"
	}
	return ""
}

func TestMayAsksForTheFieldsOfTheKind(t *testing.T) {
	one := []byte{0}
	for _, kind := range kinds() {
		for _, letter := range "SCONDFG" {
			f := plain(kind)
			switch letter {
			case 'S':
				f.Stream = 1
			case 'C':
				f.Code = 1
			case 'O':
				f.Offset = 1
			case 'N':
				f.N = 1
			case 'D':
				f.Data = one
			case 'F':
				f.Fin = true
			case 'G':
				f.Spans = spans(0, 0)
			}
			wantMay(t, "the field "+string(letter), f, strings.ContainsRune(owned(kind), letter))
		}
	}
}

// R6
func TestMayTakesEmptyListsForNone(t *testing.T) {
	for _, kind := range kinds() {
		f := plain(kind)
		f.Data = []byte{}
		if kind != api.Ack {
			f.Spans = []api.Span{}
		}
		wantMay(t, "empty lists", f, true)
		want, _ := Encode([]api.Frame{plain(kind)})
		wantEncoded(t, "empty lists", []api.Frame{f}, want)
	}
	wantMay(t, "an empty list of Spans", api.Frame{Kind: api.Ack, Spans: []api.Span{}}, false)
}

func TestMayOfNumbers(t *testing.T) {
	set := func(f api.Frame, letter rune, n int) api.Frame {
		switch letter {
		case 'S':
			f.Stream = n
		case 'C':
			f.Code = n
		case 'O':
			f.Offset = n
		case 'N':
			f.N = n
		}
		return f
	}
	for _, kind := range kinds() {
		for _, letter := range "SCON" {
			has := strings.ContainsRune(owned(kind), letter)
			for _, n := range []int{1, 63, 64, 1<<14 - 1, 1 << 30, highest - 1, highest} {
				wantMay(t, "the number "+string(letter), set(plain(kind), letter, n), has)
			}
			for _, n := range outside() {
				wantMay(t, "the number "+string(letter), set(plain(kind), letter, n), false)
			}
		}
	}
}

func TestMayOfSpans(t *testing.T) {
	may := [][]api.Span{
		spans(0, 0), spans(0, highest), spans(highest, highest), spans(5, 5), spans(0, 0, 2, 2), spans(0, 3, 5, 5),
		spans(1, 1, 3, 3, 5, 5, 100, 200), spans(0, highest-2, highest, highest), spans(0, 0, highest, highest),
		single(2), single(31), single(32),
	}
	for _, l := range may {
		wantMay(t, "Spans that rise", api.Frame{Kind: api.Ack, N: 7, Spans: l}, true)
	}
	mayNot := [][]api.Span{
		nil, {}, single(33), single(34), single(1000),
		spans(1, 0), spans(highest, highest-1), spans(5, 1, 7, 9), spans(1, 5, 9, 7),
		spans(0, 0, 1, 1), spans(2, 3, 4, 9), spans(0, 1, 3, 4, 5, 6), spans(0, highest-1, highest, highest),
		spans(2, 3, 3, 9), spans(2, 3, 2, 3), spans(2, 9, 3, 4), spans(7, 9, 2, 3), spans(0, 0, 0, 0), spans(0, 5, 7, 9, 2, 3),
		spans(-1, 0), spans(-1, -1), spans(-5, 7), spans(math.MinInt, math.MaxInt), spans(math.MinInt, 0), spans(-3, -2, 0, 1),
		spans(0, 1<<62), spans(1<<62, 1<<62), spans(0, math.MaxInt), spans(0, 1, 5, 1<<62), spans(math.MaxInt, math.MaxInt),
		spans(0, math.MaxInt, 1, 2), spans(0, math.MaxInt-1, 1, 2), spans(0, math.MaxInt, 5, 6, 8, 9),
	}
	for _, l := range mayNot {
		wantMay(t, "Spans that are none", api.Frame{Kind: api.Ack, Spans: l}, false)
	}
}

func TestMayOfData(t *testing.T) {
	for _, kind := range []int{api.Stream, api.Close} {
		for _, length := range []int{0, 1, 63, 64, api.MaxGram - 1, api.MaxGram} {
			wantMay(t, "bytes", api.Frame{Kind: kind, Data: mixed(length)}, true)
		}
		for _, length := range []int{api.MaxGram + 1, api.MaxGram + 2, 5000, 1 << 20} {
			wantMay(t, "too many bytes", api.Frame{Kind: kind, Data: mixed(length)}, false)
		}
	}
}

func TestMayOfOffsetAndBytes(t *testing.T) {
	for _, length := range []int{0, 1, 2, 77, api.MaxGram} {
		for _, fin := range []bool{false, true} {
			f := api.Frame{Kind: api.Stream, Data: mixed(length), Fin: fin}
			f.Offset = highest - length
			wantMay(t, "just the highest", f, true)
			f.Offset++
			wantMay(t, "one more", f, false)
		}
	}
	wantMay(t, "the highest and all", api.Frame{Kind: api.Stream, Offset: highest, Data: mixed(api.MaxGram)}, false)
	wantMay(t, "64 bits", api.Frame{Kind: api.Stream, Offset: math.MaxInt, Data: mixed(1)}, false)
}

// P4.1, Encode

func TestEncodeOfEveryKind(t *testing.T) {
	for _, x := range tolds() {
		wantEncoded(t, x.name, []api.Frame{x.frame}, written(x.bytes))
	}
	wantEncoded(t, "no frames", nil, nil)
	wantEncoded(t, "no frames", []api.Frame{}, nil)
}

func TestEncodeOneBehindTheOther(t *testing.T) {
	var l []api.Frame
	var want []byte
	for _, x := range tolds() {
		l = append(l, x.frame)
		want = append(want, written(x.bytes)...)
		wantEncoded(t, "up to "+x.name, l, want)
	}
}

func TestEncodeOfNumbersAsShortAsCanBe(t *testing.T) {
	for n, want := range map[int]string{
		0: "00", 37: "25", 63: "3F", 64: "4040", 15293: "7BBD", 1<<14 - 1: "7FFF", 1 << 14: "80004000",
		494878333: "9D7F3E7D", 1<<30 - 1: "BFFFFFFF", 1 << 30: "C000000040000000", highest: "FFFFFFFFFFFFFFFF",
	} {
		wantEncoded(t, "N", []api.Frame{{Kind: api.MaxData, N: n}}, written("10"+want))
		wantEncoded(t, "N", []api.Frame{{Kind: api.Ack, N: n, Spans: spans(0, 0)}}, written("0200"+want+"0000"))
		wantEncoded(t, "Stream", []api.Frame{{Kind: api.Stream, Stream: n}}, written("0E"+want+"0000"))
		wantEncoded(t, "Offset", []api.Frame{{Kind: api.Stream, Offset: n}}, written("0E00"+want+"00"))
		wantEncoded(t, "Code", []api.Frame{{Kind: api.Stop, Code: n}}, written("0500"+want))
		wantEncoded(t, "a span", []api.Frame{{Kind: api.Ack, Spans: spans(0, n)}}, written("02"+want+"0000"+want))
		if n >= 2 {
			gap, _ := Encode([]api.Frame{{Kind: api.MaxData, N: n - 2}})
			whole := slices.Concat(written("02"+want+"000100"), gap[1:], []byte{0})
			wantEncoded(t, "a gap", []api.Frame{{Kind: api.Ack, Spans: spans(0, 0, n, n)}}, whole)
		}
	}
	for length, want := range map[int]string{0: "00", 1: "01", 63: "3F", 64: "4040", 1000: "43E8"} {
		data := mixed(length)
		wantEncoded(t, "bytes", []api.Frame{{Kind: api.Stream, Data: data}}, append(written("0E0000"+want), data...))
		wantEncoded(t, "bytes", []api.Frame{{Kind: api.Close, Data: data}}, append(written("1C00"+want), data...))
	}
}

func TestEncodeOfManySpans(t *testing.T) {
	for _, count := range []int{1, 2, 31, 32} {
		want := []byte{2, byte(2*count - 2), 0, byte(count - 1), 0}
		want = append(want, make([]byte, 2*count-2)...)
		wantEncoded(t, "spans of a number each", []api.Frame{{Kind: api.Ack, Spans: single(count)}}, want)
	}
}

func TestEncodeOfManyFrames(t *testing.T) {
	wantEncoded(t, "63", pings(63), bytes.Repeat([]byte{1}, 63))
	wantEncoded(t, "64", pings(64), bytes.Repeat([]byte{1}, 64))
	notEncoded(t, "65", pings(65), api.ErrMany)
	notEncoded(t, "1000", pings(1000), api.ErrMany)
	wantEncoded(t, "64 paddings", make([]api.Frame, 64), make([]byte, 64))
	notEncoded(t, "65 paddings", make([]api.Frame, 65), api.ErrMany)
}

func TestEncodeOfManyBytes(t *testing.T) {
	// A Close's type, code and length are four bytes ahead of these.
	for _, over := range []int{-1, 0, 1, 2, 4} {
		data := mixed(api.MaxGram - 4 + over)
		l := []api.Frame{{Kind: api.Close, Code: 1, Data: data}}
		if over > 0 {
			notEncoded(t, "more than a datagram", l, api.ErrMany)
			continue
		}
		wantEncoded(t, "up to a datagram", l, append([]byte{0x1C, 1, byte(0x40 + len(data)>>8), byte(len(data))}, data...))
	}
	whole := []api.Frame{{Kind: api.Stream, Data: mixed(api.MaxGram)}}
	notEncoded(t, "bytes of a datagram, and what tells of them", whole, api.ErrMany)
	notEncoded(t, "64 of such", slices.Repeat(whole, 64), api.ErrMany)
}

func TestEncodeOfFramesThatAreTogetherADatagram(t *testing.T) {
	// Four bytes and 96 are a frame of 100, and twelve of these a datagram.
	l := slices.Repeat([]api.Frame{{Kind: api.Stream, Stream: 1, Data: mixed(95)}}, 12)
	b, e := Encode(l)
	if e != api.OK || len(b) != api.MaxGram {
		t.Fatalf("%d bytes, %v", len(b), e)
	}
	notEncoded(t, "one byte more", append(l, api.Frame{Kind: api.Ping}), api.ErrMany)
	notEncoded(t, "one byte more ahead", append(pings(1), l...), api.ErrMany)
	l[3].Data = mixed(94)
	wantTaken(t, append(l, api.Frame{Kind: api.Ping}))
}

// wantTaken asks that frames are encoded to just a datagram.
func wantTaken(t *testing.T, l []api.Frame) {
	t.Helper()
	if b, e := Encode(l); e != api.OK || len(b) != api.MaxGram {
		t.Errorf("Encode is %d bytes, %v", len(b), e)
	}
}

// R1
func TestEncodeTellsTheErrorThatIsNamedFirst(t *testing.T) {
	wrong := api.Frame{Kind: 3}
	notEncoded(t, "65 frames, a wrong one among them", append(pings(64), wrong), api.ErrMany)
	notEncoded(t, "65 frames, all of them wrong", slices.Repeat([]api.Frame{wrong}, 65), api.ErrMany)
	notEncoded(t, "the last of 64 wrong", append(pings(63), wrong), api.ErrArg)
	notEncoded(t, "the first of 64 wrong", append([]api.Frame{wrong}, pings(63)...), api.ErrArg)
	long := slices.Repeat([]api.Frame{{Kind: api.Stream, Data: mixed(api.MaxGram)}}, 9)
	notEncoded(t, "too many bytes ahead of a wrong one", append(long, wrong), api.ErrArg)
	notEncoded(t, "a wrong one ahead of too many bytes", append([]api.Frame{wrong}, long...), api.ErrArg)
	notEncoded(t, "too many frames of too many bytes", slices.Repeat(long, 8), api.ErrMany)
	notEncoded(t, "too many bytes in one", []api.Frame{{Kind: api.Close, Data: mixed(api.MaxGram + 1)}}, api.ErrArg)
}

// P4.1, Same

func TestSame(t *testing.T) {
	all := tolds()
	for i, x := range all {
		for j, y := range all {
			if got := Same([]api.Frame{x.frame}, copied([]api.Frame{y.frame})); got != (i == j) {
				t.Errorf("%s and %s: Same is %v", x.name, y.name, got)
			}
		}
	}
	if !Same(nil, nil) || !Same(nil, []api.Frame{}) || !Same([]api.Frame{}, nil) {
		t.Error("two lists of no frames are not the same")
	}
	if Same(nil, pings(1)) || Same(pings(1), nil) || Same(pings(2), pings(3)) || Same(pings(3), pings(2)) {
		t.Error("lists of other lengths are the same")
	}
}

func TestSameAsksForEveryField(t *testing.T) {
	full := func() api.Frame {
		return api.Frame{Kind: 9, Stream: 1, Offset: 2, N: 3, Code: -4, Fin: true, Data: []byte("abc"), Spans: spans(9, 7, 1, 1)}
	}
	turns := []func(f *api.Frame){
		func(f *api.Frame) { f.Kind++ },
		func(f *api.Frame) { f.Stream = 0 },
		func(f *api.Frame) { f.Offset-- },
		func(f *api.Frame) { f.N = -3 },
		func(f *api.Frame) { f.Code = 4 },
		func(f *api.Frame) { f.Fin = false },
		func(f *api.Frame) { f.Data[1] = 'B' },
		func(f *api.Frame) { f.Data = f.Data[:2] },
		func(f *api.Frame) { f.Data = append(f.Data, 0) },
		func(f *api.Frame) { f.Data = nil },
		func(f *api.Frame) { f.Spans[0].From++ },
		func(f *api.Frame) { f.Spans[1].To++ },
		func(f *api.Frame) { f.Spans = f.Spans[:1] },
		func(f *api.Frame) { f.Spans = append(f.Spans, api.Span{}) },
		func(f *api.Frame) { f.Spans = nil },
		func(f *api.Frame) { f.Spans[0], f.Spans[1] = f.Spans[1], f.Spans[0] },
	}
	for i, turn := range turns {
		for at := range 3 {
			a := []api.Frame{full(), full(), full()}
			b := []api.Frame{full(), full(), full()}
			if !Same(a, b) || !Same(b, a) {
				t.Fatal("frames that may not be told are not the same as themselves")
			}
			turn(&b[at])
			if Same(a, b) || Same(b, a) {
				t.Errorf("turned by %d at %d they are the same", i, at)
			}
		}
	}
	a, b := []api.Frame{{Kind: 1}, {Kind: 0}}, []api.Frame{{Kind: 0}, {Kind: 1}}
	if Same(a, b) {
		t.Error("in another order they are the same")
	}
}

// R6
func TestSameTakesEmptyListsForNone(t *testing.T) {
	a := []api.Frame{{Kind: api.Ping}}
	b := []api.Frame{{Kind: api.Ping, Data: []byte{}, Spans: []api.Span{}}}
	if !Same(a, b) || !Same(b, a) {
		t.Error("an empty list is another than none")
	}
}

// P4.1, Asks

func TestAsks(t *testing.T) {
	for _, kind := range slices.Concat(kinds(), noKinds()) {
		want := kind != 0 && kind != 2 && kind != 28
		if got := Asks(api.Frame{Kind: kind}); got != want {
			t.Errorf("Asks of the Kind %d is %v", kind, got)
		}
		f := api.Frame{Kind: kind, Stream: -1, Data: []byte{1}, Spans: spans(1, 0), Fin: true}
		if got := Asks(f); got != want {
			t.Errorf("Asks of %v is %v", f, got)
		}
	}
}

// P4.2, frames

func TestDecodeOfEveryKind(t *testing.T) {
	for _, x := range tolds() {
		wantDecoded(t, x.name, written(x.bytes), x.frame)
		wantDecoded(t, x.name+" behind others", written("01 00"+x.bytes), api.Frame{Kind: 1}, api.Frame{}, x.frame)
	}
	wantDecoded(t, "no bytes", nil)
	wantDecoded(t, "no bytes", []byte{})
}

func TestDecodeOfAStreamsBits(t *testing.T) {
	abc := []byte("abc")
	for _, x := range []told{
		{"08", api.Frame{Kind: 8, Stream: 7, Data: abc}, "08 07 616263"},
		{"09", api.Frame{Kind: 8, Stream: 7, Data: abc, Fin: true}, "09 07 616263"},
		{"0A", api.Frame{Kind: 8, Stream: 7, Data: abc}, "0A 07 03 616263"},
		{"0B", api.Frame{Kind: 8, Stream: 7, Data: abc, Fin: true}, "0B 07 03 616263"},
		{"0C", api.Frame{Kind: 8, Stream: 7, Offset: 5, Data: abc}, "0C 07 05 616263"},
		{"0D", api.Frame{Kind: 8, Stream: 7, Offset: 5, Data: abc, Fin: true}, "0D 07 05 616263"},
		{"0E", api.Frame{Kind: 8, Stream: 7, Offset: 5, Data: abc}, "0E 07 05 03 616263"},
		{"0F", api.Frame{Kind: 8, Stream: 7, Offset: 5, Data: abc, Fin: true}, "0F 07 05 03 616263"},
		{"08, no bytes", api.Frame{Kind: 8, Stream: 7}, "08 07"},
		{"09, no bytes", api.Frame{Kind: 8, Stream: 7, Fin: true}, "09 07"},
		{"0A, no bytes", api.Frame{Kind: 8, Stream: 7}, "0A 07 00"},
		{"0D, no bytes", api.Frame{Kind: 8, Stream: 7, Offset: highest, Fin: true}, "0D 07 FFFFFFFFFFFFFFFF"},
	} {
		wantDecoded(t, x.name, written(x.bytes), x.frame)
		wantDecoded(t, x.name+" behind another", written("12 09"+x.bytes), api.Frame{Kind: api.MaxOpen, N: 9}, x.frame)
		if written(x.bytes)[0]&2 != 0 {
			wantDecoded(t, x.name+" ahead of another", written(x.bytes+"12 09"), x.frame, api.Frame{Kind: api.MaxOpen, N: 9})
			continue
		}
		all := x.frame
		all.Data = slices.Concat(all.Data, []byte{0x12, 0x09})
		if all.Offset <= highest-5 {
			wantDecoded(t, x.name+" takes all that are left", written(x.bytes+"12 09"), all)
		}
	}
}

func TestDecodeOfNumbersThatAreLongerThanNeeded(t *testing.T) {
	wantDecoded(t, "two bytes", written("10 4025"), api.Frame{Kind: api.MaxData, N: 37})
	wantDecoded(t, "four and eight", written("11 80000001 C000000000000002"), api.Frame{Kind: api.MaxOn, Stream: 1, N: 2})
	wantDecoded(t, "a length in eight", written("0A 4001 C000000000000002 0909"), api.Frame{Kind: 8, Stream: 1, Data: []byte{9, 9}})
	wantDecoded(t, "a length in four", written("1C 4000 80000001 09"), api.Frame{Kind: api.Close, Data: []byte{9}})
	wantDecoded(t, "an ack", written("02 4009 80000000 4001 C000000000000002 4002 80000001"), api.Frame{Kind: 2, Spans: spans(2, 3, 7, 9)})
}

func TestDecodeOfManyFrames(t *testing.T) {
	for _, count := range []int{1, 63, 64} {
		wantDecoded(t, "pings", bytes.Repeat([]byte{1}, count), pings(count)...)
		wantDecoded(t, "paddings", make([]byte, count), make([]api.Frame, count)...)
	}
	// The 64th one takes all that is left.
	b := append(bytes.Repeat([]byte{1}, 63), written("08 05 010203")...)
	wantDecoded(t, "64, the last one up to the end", b, append(pings(63), api.Frame{Kind: 8, Stream: 5, Data: []byte{1, 2, 3}})...)
}

func TestDecodeOfAWholeDatagram(t *testing.T) {
	data := mixed(api.MaxGram - 2)
	wantDecoded(t, "a stream", append([]byte{0x09, 3}, data...), api.Frame{Kind: 8, Stream: 3, Data: data, Fin: true})
	data = mixed(api.MaxGram - 4)
	wantDecoded(t, "a close", append([]byte{0x1C, 1, 0x44, 0xAC}, data...), api.Frame{Kind: api.Close, Code: 1, Data: data})
}

// P4.2, faults

func TestDecodeRefusesMoreThanADatagram(t *testing.T) {
	for _, length := range []int{api.MaxGram + 1, api.MaxGram + 2, 1 << 16} {
		for _, first := range []byte{0x00, 0x01, 0x03, 0x08, 0x40, 0xFF} {
			b := bytes.Repeat([]byte{0x01}, length)
			b[0] = first
			notDecoded(t, "too many bytes", b, api.ErrMany, 0)
		}
	}
	notDecoded(t, "just a datagram, but not of so many frames", bytes.Repeat([]byte{1}, api.MaxGram), api.ErrMany, 64)
}

func TestDecodeRefusesTypesThatAreNone(t *testing.T) {
	heads := []string{"", "01", "00 1E", "02 09 00 01 02 02 01", "0A 07 03 616263", "1C 412C 03 627965"}
	tails := []string{"", "00", "01", "00000000000000", "FFFFFFFFFFFFFFFFFF"}
	for first := range 256 {
		if slices.Contains(kinds(), first) || first >= 8 && first <= 15 {
			continue
		}
		for _, head := range heads {
			for _, tail := range tails {
				b := slices.Concat(written(head), []byte{byte(first)}, written(tail))
				notDecoded(t, "a type that is none", b, api.ErrForm, len(written(head)))
			}
		}
	}
}

func TestDecodeRefusesTypesInMoreBytesThanOne(t *testing.T) {
	wide := func(kind int) []string {
		low := hex.EncodeToString([]byte{byte(kind)})
		return []string{"40" + low, "800000" + low, "C0000000000000" + low}
	}
	for _, x := range tolds() {
		whole := written(x.bytes)
		for _, mark := range wide(int(whole[0])) {
			notDecoded(t, x.name, slices.Concat(written(mark), whole[1:]), api.ErrForm, 0)
			notDecoded(t, x.name+" behind another", slices.Concat(whole, written(mark), whole[1:]), api.ErrForm, len(whole))
			for there := 1; there < len(written(mark)); there++ {
				notDecoded(t, x.name+", a byte missing", written(mark)[:there], api.ErrForm, 0)
			}
		}
	}
}

func TestDecodeRefusesA65thFrame(t *testing.T) {
	for first := range 256 {
		b := append(bytes.Repeat([]byte{1}, 64), byte(first))
		notDecoded(t, "alone", b, api.ErrMany, 64)
		notDecoded(t, "with more behind", slices.Concat(b, written("09 00 03 02")), api.ErrMany, 64)
		notDecoded(t, "in more bytes than one", slices.Concat(b, written("C0FFFFFFFFFFFFFFFF")), api.ErrMany, 64)
	}
	ack := written("02 09 00 01 02 02 01")
	b := append(bytes.Repeat([]byte{0}, 63), ack...)
	wantDecoded(t, "64", b, append(make([]api.Frame, 63), api.Frame{Kind: 2, Spans: spans(2, 3, 7, 9)})...)
	notDecoded(t, "its place", append(b, 3), api.ErrMany, len(b))
	notDecoded(t, "longer ones", bytes.Repeat(ack, 65), api.ErrMany, 64*len(ack))
	notDecoded(t, "a fault ahead of it", slices.Concat([]byte{1, 3}, bytes.Repeat([]byte{1}, 64)), api.ErrForm, 1)
	notDecoded(t, "a fault in the 64th", slices.Concat(bytes.Repeat([]byte{1}, 63), []byte{3, 1}), api.ErrForm, 63)
}

func TestDecodeMissesBytes(t *testing.T) {
	for _, x := range tolds() {
		whole := written(x.bytes)
		for there := 1; there < len(whole); there++ {
			notDecoded(t, x.name, whole[:there], api.ErrEnd, there)
			b := append(written("01 12 4040"), whole[:there]...)
			notDecoded(t, x.name+" behind others", b, api.ErrEnd, len(b))
		}
	}
}

func TestDecodeMissesBytesOfAStream(t *testing.T) {
	// What stands ahead of a Stream's bytes, for each of its types.
	for _, head := range []string{
		"08 4007", "09 4007", "0C 4007 80000005", "0D 4007 80000005",
		"0A 4007 4003", "0B 4007 4003", "0E 4007 80000005 4003", "0F 4007 80000005 4003",
	} {
		whole := written(head)
		for there := 1; there < len(whole); there++ {
			notDecoded(t, "numbers", whole[:there], api.ErrEnd, there)
		}
		if whole[0]&2 == 0 {
			continue
		}
		for there := range 3 {
			b := slices.Concat(whole, []byte{1, 2, 3}[:there])
			notDecoded(t, "bytes", b, api.ErrEnd, len(b))
		}
	}
	for _, long := range []string{"0A 00", "1C 00"} {
		b := slices.Concat(written(long+"FFFFFFFFFFFFFFFF"), []byte{1, 2, 3})
		notDecoded(t, "as many as can be told", b, api.ErrEnd, len(b))
		b = slices.Concat(written(long+"44B0"), mixed(api.MaxGram-4))
		notDecoded(t, "up to a datagram", b, api.ErrEnd, api.MaxGram)
	}
}

func TestDecodeMissesNumbersThatAreLongerThanNeeded(t *testing.T) {
	whole := written("02 C000000000000009 80000000 4001 C000000000000002 4002 80000001")
	wantDecoded(t, "all there", whole, api.Frame{Kind: 2, Spans: spans(2, 3, 7, 9)})
	for there := 1; there < len(whole); there++ {
		notDecoded(t, "an ack", whole[:there], api.ErrEnd, there)
	}
}

func TestDecodeRefusesManySpans(t *testing.T) {
	ack := func(further string, steps int) []byte {
		return slices.Concat(written("02 407F 00"+further+"00"), make([]byte, 2*steps))
	}
	var most []api.Span
	for i := range 32 {
		n := 127 - 2*31 + 2*i
		most = append(most, api.Span{From: n, To: n})
	}
	for _, further := range []string{"1F", "401F", "8000001F", "C00000000000001F"} {
		wantDecoded(t, "31 further ones", ack(further, 31), api.Frame{Kind: 2, Spans: most})
	}
	for _, further := range []string{"20", "21", "3F", "4020", "4040", "80000020", "C000000000000020", "FFFFFFFFFFFFFFFF"} {
		for _, steps := range []int{0, 1, 31, 32, 33, 63} {
			notDecoded(t, "32 or more", ack(further, steps), api.ErrMany, 4)
			notDecoded(t, "behind others", append(written("01 10 4040"), ack(further, steps)...), api.ErrMany, 8)
		}
		count := written(further)
		alone := slices.Concat(written("02 407F 00"), count)
		notDecoded(t, "ahead of bytes that are missing", alone, api.ErrMany, 4)
		for there := range len(count) {
			notDecoded(t, "in bytes that are missing", alone[:4+there], api.ErrEnd, 4+there)
		}
	}
	notDecoded(t, "ahead of a span that goes below 0", written("02 00 00 20 01"), api.ErrMany, 3)
}

func TestDecodeRefusesSpansBelowZero(t *testing.T) {
	wantDecoded(t, "the first one down to 0", written("02 09 00 00 09"), api.Frame{Kind: 2, Spans: spans(0, 9)})
	notDecoded(t, "the first one below 0", written("02 09 00 00 0A"), api.ErrForm, 4)
	notDecoded(t, "the first one far below 0", written("02 00 00 00 FFFFFFFFFFFFFFFF"), api.ErrForm, 4)
	notDecoded(t, "the first one of 0", written("02 00 00 00 01"), api.ErrForm, 4)
	notDecoded(t, "all numbers and one", written("02 FFFFFFFFFFFFFFFE 00 00 FFFFFFFFFFFFFFFF"), api.ErrForm, 11)

	wantDecoded(t, "a gap down to 0", written("02 09 00 01 02 05 00"), api.Frame{Kind: 2, Spans: spans(0, 0, 7, 9)})
	notDecoded(t, "a gap below 0", written("02 09 00 01 02 06 00"), api.ErrForm, 5)
	notDecoded(t, "a gap two below 0", written("02 09 00 01 02 07 00"), api.ErrForm, 5)
	notDecoded(t, "a gap far below 0", written("02 09 00 01 02 FFFFFFFFFFFFFFFF 00"), api.ErrForm, 5)
	notDecoded(t, "a gap behind 0", written("02 09 00 01 09 00 00"), api.ErrForm, 5)
	notDecoded(t, "a gap behind 1", written("02 09 00 01 08 00 00"), api.ErrForm, 5)
	wantDecoded(t, "a gap behind 2", written("02 09 00 01 07 00 00"), api.Frame{Kind: 2, Spans: spans(0, 0, 2, 9)})
	notDecoded(t, "a gap of all", written("02 FFFFFFFFFFFFFFFF 00 01 00 FFFFFFFFFFFFFFFE 00"), api.ErrForm, 12)

	wantDecoded(t, "a further one down to 0", written("02 09 00 01 02 02 03"), api.Frame{Kind: 2, Spans: spans(0, 3, 7, 9)})
	notDecoded(t, "a further one below 0", written("02 09 00 01 02 02 04"), api.ErrForm, 6)
	notDecoded(t, "a further one far below 0", written("02 09 00 01 02 02 FFFFFFFFFFFFFFFF"), api.ErrForm, 6)
	notDecoded(t, "a further one of 0", written("02 09 00 01 02 05 01"), api.ErrForm, 6)

	notDecoded(t, "the third gap", written("02 4014 00 03 00 00 00 00 00 0F 00"), api.ErrForm, 10)
	notDecoded(t, "the third length", written("02 4014 00 03 00 00 00 00 00 01 4040"), api.ErrForm, 11)
	notDecoded(t, "behind others", written("01 00 02 09 00 01 02 06 00"), api.ErrForm, 7)
	notDecoded(t, "the gap ahead of bytes that are missing", written("02 09 00 01 02 06"), api.ErrForm, 5)
	notDecoded(t, "the length ahead of bytes that are missing", written("02 09 00 05 0A"), api.ErrForm, 4)
	notDecoded(t, "the first of two", written("02 09 00 01 0A 09 09"), api.ErrForm, 4)
}

func TestDecodeRefusesBytesBeyondTheHighest(t *testing.T) {
	top := "FFFFFFFFFFFFFFFF"
	wantDecoded(t, "just the highest", written("0E 00 FFFFFFFFFFFFFFFC 03 010203"), api.Frame{Kind: 8, Offset: highest - 3, Data: []byte{1, 2, 3}})
	wantDecoded(t, "just the highest, all that are left", written("0C 00 FFFFFFFFFFFFFFFC 010203"), api.Frame{Kind: 8, Offset: highest - 3, Data: []byte{1, 2, 3}})
	wantDecoded(t, "no bytes at the highest", written("0F 00"+top+"00"), api.Frame{Kind: 8, Offset: highest, Fin: true})
	notDecoded(t, "one more", written("0E 00 FFFFFFFFFFFFFFFD 03 010203"), api.ErrFlow, 0)
	notDecoded(t, "one more, all that are left", written("0C 00 FFFFFFFFFFFFFFFD 010203"), api.ErrFlow, 0)
	notDecoded(t, "one at the highest", written("0F 00"+top+"01 09"), api.ErrFlow, 0)
	notDecoded(t, "one at the highest, all that are left", written("0D 00"+top+"09"), api.ErrFlow, 0)

	notDecoded(t, "ahead of bytes that are missing", written("0E 00 FFFFFFFFFFFFFFFD 03 0102"), api.ErrFlow, 0)
	notDecoded(t, "ahead of all bytes, which are missing", written("0E 00 FFFFFFFFFFFFFFFD 03"), api.ErrFlow, 0)
	notDecoded(t, "the highest twice", written("0E"+top+top+top), api.ErrFlow, 0)
	notDecoded(t, "1 and the highest", written("0E 00 01"+top+"09"), api.ErrFlow, 0)
	b := written("0E 00 00" + top + "09")
	notDecoded(t, "0 and the highest", b, api.ErrEnd, len(b))
	b = written("0E 00" + top)
	notDecoded(t, "it is not told how many", b, api.ErrEnd, len(b))
	b = written("0E 00" + top + "C0 FF")
	notDecoded(t, "it is not told whole how many", b, api.ErrEnd, len(b))

	head := "01 02 09 00 01 02 02 01 12 04"
	notDecoded(t, "behind others", written(head+"0E 00"+top+"01 09"), api.ErrFlow, len(written(head)))
	notDecoded(t, "behind others, all that are left", written(head+"0C 00"+top+"09"), api.ErrFlow, len(written(head)))
	notDecoded(t, "ahead of a type that is none", written("0E 00"+top+"01 09 03"), api.ErrFlow, 0)
	wantDecoded(t, "a reset at the highest", written("04 00 00"+top), api.Frame{Kind: api.Reset, Offset: highest})
}

func TestDecodeTellsTheFirstFault(t *testing.T) {
	notDecoded(t, "two types that are none", written("01 03 06"), api.ErrForm, 1)
	notDecoded(t, "a type that is none ahead of a missing byte", written("03 10"), api.ErrForm, 0)
	notDecoded(t, "what comes behind a frame without its end", written("1C 00 05 0303"), api.ErrEnd, 5)
	notDecoded(t, "a span below 0 ahead of a type that is none", written("02 00 00 00 01 03"), api.ErrForm, 4)
	notDecoded(t, "too many spans ahead of a type that is none", written("01 02 00 00 20 03"), api.ErrMany, 4)
}

// P4.3

// anyNumber is one of any size.
func anyNumber(r *rand.Rand) int {
	return int(r.Uint64() >> (2 + r.Intn(62)))
}

// anySpans are so many that rise, with just one number left out between two as often as not.
func anySpans(r *rand.Rand, count int) []api.Span {
	var l []api.Span
	from := r.Intn(3)
	for range count {
		to := from + r.Intn(2)*r.Intn(1<<r.Intn(40))
		l = append(l, api.Span{From: from, To: to})
		from = to + 2 + r.Intn(2)*r.Intn(1<<r.Intn(40))
	}
	return l
}

// anyFrame is one that may be told, of a kind.
func anyFrame(r *rand.Rand, kind int) api.Frame {
	f := api.Frame{Kind: kind}
	for _, letter := range owned(kind) {
		switch letter {
		case 'S':
			f.Stream = anyNumber(r)
		case 'C':
			f.Code = anyNumber(r)
		case 'O':
			f.Offset = min(anyNumber(r), highest-api.MaxGram)
		case 'N':
			f.N = anyNumber(r)
		case 'D':
			f.Data = mixed(r.Intn(1 + r.Intn(100)))
		case 'F':
			f.Fin = r.Intn(2) == 0
		case 'G':
			f.Spans = anySpans(r, 1+r.Intn(1+r.Intn(32)))
		}
	}
	return f
}

// anyFrames are some that may be told.
func anyFrames(r *rand.Rand, count int) []api.Frame {
	var l []api.Frame
	for range count {
		l = append(l, anyFrame(r, kinds()[r.Intn(len(kinds()))]))
	}
	return l
}

func TestWhatIsEncodedIsDecoded(t *testing.T) {
	r := rand.New(rand.NewSource(4))
	fitted := 0
	for range 20000 {
		l := anyFrames(r, r.Intn(1+r.Intn(65)))
		b, e := Encode(l)
		if e == api.ErrMany {
			continue
		}
		fitted++
		got, fault := Decode(b)
		if e != api.OK || fault != (api.Fault{}) || !alike(got, l) || !Same(got, l) {
			t.Fatalf("%v is encoded to %x, %v, which is decoded to %v, %v", l, b, e, got, fault)
		}
	}
	if fitted < 10000 {
		t.Fatalf("only %d lists had room", fitted)
	}
}

func TestEveryByteOfWhatIsEncodedIsNeeded(t *testing.T) {
	r := rand.New(rand.NewSource(43))
	for range 300 {
		f := anyFrame(r, kinds()[r.Intn(len(kinds()))])
		b, e := Encode([]api.Frame{f})
		if e != api.OK {
			t.Fatal(f, e)
		}
		for there := 1; there < len(b); there++ {
			notDecoded(t, "cut", b[:there], api.ErrEnd, there)
		}
	}
}

// P4.4

// wantToldAgain asks of bytes that are frames that these may be told, and are encoded to the same frames if they have room.
func wantToldAgain(t *testing.T, b []byte) bool {
	t.Helper()
	l, fault := Decode(b)
	if fault.Why != api.OK {
		if l != nil || fault.At < 0 || fault.At > len(b) {
			t.Fatalf("Decode(%x) is %v, %v", b, l, fault)
		}
		return false
	}
	for _, f := range l {
		if !May(f) {
			t.Fatalf("Decode(%x) has %v, which may not be told", b, f)
		}
	}
	again, e := Encode(l)
	// Each of 64 Streams may tell one byte more, an Offset of 0, and the last one two more, how many bytes it has.
	if e == api.ErrMany && len(b) > api.MaxGram-66 {
		return true
	}
	got, fault := Decode(again)
	if e != api.OK || fault != (api.Fault{}) || !alike(got, l) {
		t.Fatalf("%v of %x is encoded to %x, %v, which is decoded to %v, %v", l, b, again, e, got, fault)
	}
	return true
}

func TestWhatIsDecodedMayBeToldAgain(t *testing.T) {
	for _, x := range tolds() {
		wantToldAgain(t, written(x.bytes))
	}
	r := rand.New(rand.NewSource(44))
	read := 0
	for range 100000 {
		b, e := Encode(anyFrames(r, 1+r.Intn(6)))
		if e != api.OK {
			continue
		}
		for range 1 + r.Intn(3) {
			b[r.Intn(len(b))] = byte(r.Intn(256) >> r.Intn(8))
		}
		if wantToldAgain(t, b[:len(b)-r.Intn(2)*r.Intn(len(b))]) {
			read++
		}
	}
	if read < 10000 {
		t.Fatalf("only %d of the turned bytes were frames", read)
	}
}

func TestWhatIsDecodedOfShortBytes(t *testing.T) {
	wantToldAgain(t, nil)
	for first := range 256 {
		wantToldAgain(t, []byte{byte(first)})
		for second := range 256 {
			wantToldAgain(t, []byte{byte(first), byte(second)})
			wantToldAgain(t, []byte{byte(first), byte(second), 0})
			wantToldAgain(t, []byte{byte(first), 0, 0, byte(second), 0, 0})
		}
	}
}

func TestWhatIsDecodedMayHaveNoRoom(t *testing.T) {
	// Encoded it tells its Offset and how many bytes it has, too, which are three bytes more.
	for over := -2; over <= 3; over++ {
		b := append([]byte{0x08, 1}, mixed(api.MaxGram-5+over)...)
		l, fault := Decode(b)
		if fault.Why != api.OK || len(l) != 1 || !May(l[0]) {
			t.Fatalf("%d bytes are %v, %v", len(b), l, fault)
		}
		if over > 0 {
			notEncoded(t, "no room", l, api.ErrMany)
			continue
		}
		again, _ := Encode(l)
		if len(again) != api.MaxGram+over {
			t.Fatalf("%d bytes, not %d", len(again), api.MaxGram+over)
		}
		wantDecoded(t, "room", again, l...)
	}
}

// P4.5

func TestFramesOneBehindTheOther(t *testing.T) {
	r := rand.New(rand.NewSource(45))
	fitted := 0
	for range 10000 {
		a, b := anyFrames(r, r.Intn(8)), anyFrames(r, r.Intn(8))
		bytesOfA, eOfA := Encode(a)
		bytesOfB, eOfB := Encode(b)
		both := slices.Concat(a, b)
		bytesOfBoth := slices.Concat(bytesOfA, bytesOfB)
		if eOfA != api.OK || eOfB != api.OK || len(bytesOfBoth) > api.MaxGram {
			continue
		}
		fitted++
		got, fault := Decode(bytesOfBoth)
		if fault != (api.Fault{}) || !alike(got, both) {
			t.Fatalf("%v and %v are %v, %v", a, b, got, fault)
		}
		wantEncoded(t, "both", both, bytesOfBoth)
	}
	if fitted < 5000 {
		t.Fatalf("only %d pairs had room", fitted)
	}
}

func TestFramesBehindShorterOnes(t *testing.T) {
	head := written("00 0A 07 03 616263 0B 4001 00 12 4005 02 4009 00 01 02 02 01")
	first, fault := Decode(head)
	if fault.Why != api.OK || len(first) != 5 {
		t.Fatal(first, fault)
	}
	for _, x := range tolds() {
		wantDecoded(t, x.name, slices.Concat(head, written(x.bytes)), append(copied(first), x.frame)...)
		wantDecoded(t, x.name, slices.Concat(written(x.bytes), head), slices.Concat([]api.Frame{x.frame}, first)...)
	}
}

func TestEncodeAndDecodeOfTwoLongLists(t *testing.T) {
	a, b := pings(32), make([]api.Frame, 32)
	bytesOfA, _ := Encode(a)
	bytesOfB, _ := Encode(b)
	wantDecoded(t, "64 of both", slices.Concat(bytesOfA, bytesOfB), slices.Concat(a, b)...)
	notDecoded(t, "65 of both", slices.Concat(bytesOfA, bytesOfB, []byte{1}), api.ErrMany, 64)
}

// R4

// full are frames with lists that have room to spare, which is somebody else's.
func full() ([]api.Frame, []byte, []api.Span) {
	data := []byte("abcdefgh")
	l := spans(2, 3, 7, 9, 20, 30)
	return []api.Frame{
		{Kind: api.Stream, Stream: 1, Data: data[:3]},
		{Kind: api.Ack, Spans: l[:2]},
		{Kind: api.Close, Data: data[3:5]},
	}, data, l
}

func TestWhatIsHandedInIsNotTurned(t *testing.T) {
	frames, data, l := full()
	before := copied(frames)
	beforeData, beforeSpans := bytes.Clone(data), slices.Clone(l)
	b, e := Encode(frames)
	Encode(frames[:1])
	Same(frames, frames[:2])
	for _, f := range frames {
		May(f)
		Asks(f)
	}
	if e != api.OK || !alike(frames, before) || !bytes.Equal(data, beforeData) || !slices.Equal(l, beforeSpans) {
		t.Fatalf("%v was turned to %v, %q, %v (%v)", before, frames, data, l, e)
	}
	kept := bytes.Clone(b)
	Decode(b)
	Decode(b[:len(b)-1])
	Decode(b[1:])
	if !bytes.Equal(b, kept) {
		t.Fatalf("%x was turned to %x", kept, b)
	}
}

func TestWhatEncodeAnswersIsTheCallers(t *testing.T) {
	frames, data, l := full()
	want := copied(frames)
	b, e := Encode(frames)
	if e != api.OK {
		t.Fatal(e)
	}
	kept := bytes.Clone(b)
	clear(b[:cap(b)])
	if !alike(frames, want) {
		t.Fatalf("what Encode answered is shared: %v", frames)
	}
	b, _ = Encode(frames)
	clear(data)
	clear(l)
	clear(frames)
	if !bytes.Equal(b, kept) {
		t.Fatalf("Encode kept what it was handed: %x is %x now", kept, b)
	}
	wantEncoded(t, "at another time", want, kept)
}

func TestWhatDecodeAnswersIsTheCallers(t *testing.T) {
	b := written("0A 01 03 616263 02 09 00 01 02 02 01 02 09 00 01 02 02 01 1C 00 02 6465 09 01 666768")
	kept := bytes.Clone(b)
	want, fault := Decode(b)
	if fault.Why != api.OK || len(want) != 5 {
		t.Fatal(want, fault)
	}
	want = copied(want)
	for turned := range want {
		got, _ := Decode(b)
		clear(got[turned].Data[:cap(got[turned].Data)])
		clear(got[turned].Spans[:cap(got[turned].Spans)])
		_ = append(got[turned].Data, "zzzz"...)
		_ = append(got[turned].Spans, api.Span{From: 1, To: 1})
		for i := range want {
			if i != turned && !alike(got[i:i+1], want[i:i+1]) {
				t.Fatalf("writing into frame %d turned frame %d to %v", turned, i, got[i])
			}
		}
		if !bytes.Equal(b, kept) {
			t.Fatalf("writing into frame %d turned the bytes to %x", turned, b)
		}
	}
	got, _ := Decode(b)
	clear(b)
	if !alike(got, want) {
		t.Fatalf("Decode kept what it was handed: %v", got)
	}
	wantDecoded(t, "at another time", kept, want...)
}

// R3
func TestTheSameCallsHaveTheSameAnswers(t *testing.T) {
	b := written("02 09 00 01 02 02 01 09 01 666768")
	want, _ := Decode(b)
	notDecoded(t, "a fault between", written("02 09 00 01 02 06"), api.ErrForm, 5)
	notEncoded(t, "a fault between", pings(65), api.ErrMany)
	wantDecoded(t, "again", b, want...)
}

// R1
func FuzzDecode(f *testing.F) {
	for _, x := range tolds() {
		f.Add(written(x.bytes))
	}
	f.Fuzz(func(t *testing.T, b []byte) {
		wantToldAgain(t, b)
	})
}
