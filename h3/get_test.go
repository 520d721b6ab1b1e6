package h3

import (
	"bytes"
	"slices"
	"strconv"
	"strings"
	"testing"

	"turnbuckle/api"
)

// P15.3: what bytes are; each of these tests is asked of both kinds.

func TestRequestsThatAreGot(t *testing.T)  { testGot(t, requests()) }
func TestResponsesThatAreGot(t *testing.T) { testGot(t, responses()) }

func testGot[M any](t *testing.T, k kind[M]) {
	l := many(3)
	k.isGot(t, k.headWith(), k.with(nil, nil))
	k.isGot(t, k.headWith(l...), k.with(l, nil))
	k.isGot(t, join(k.headWith(l...), dataOf("body")), k.with(l, []byte("body")))
	right := append(l, field("content-length", "4"))
	k.isGot(t, join(k.headWith(right...), dataOf("body")), k.with(right, []byte("body")))
	k.isGot(t, k.headWith(field("content-length", "0")), k.with([]api.Field{field("content-length", "0")}, nil))
	k.isGot(t, join(k.headWith(), frame(0, 0, 1, 0xFF)), k.with(nil, []byte{0, 1, 0xFF}))
}

func TestNoRequest(t *testing.T)  { testNone(t, requests()) }
func TestNoResponse(t *testing.T) { testNone(t, responses()) }

func testNone[M any](t *testing.T, k kind[M]) {
	k.fails(t, nil, api.ErrOrder)
	k.fails(t, []byte{}, api.ErrOrder)
	for _, other := range others() {
		k.fails(t, other, api.ErrOrder)
		k.fails(t, join(other, other), api.ErrOrder)
	}
}

func TestRequestsInLongBytes(t *testing.T)  { testLong(t, requests()) }
func TestResponsesInLongBytes(t *testing.T) { testLong(t, responses()) }

func testLong[M any](t *testing.T, k kind[M]) {
	begin := join(k.headWith(many(3)...), dataOf("body"))
	filled := func(size int) []byte {
		return join(begin, frame(33, make([]byte, size-len(begin)-5)...))
	}
	for _, less := range []int{0, 1, 2, 100} {
		b := filled(longest - less)
		if len(b) != longest-less {
			t.Fatalf("%d bytes are %d", longest-less, len(b))
		}
		k.isGot(t, b, k.with(many(3), []byte("body")))
	}
	for _, more := range []int{1, 2, 100, longest} {
		k.fails(t, filled(longest+more), api.ErrMany)
	}
	// How long it is goes ahead of all else.
	for _, n := range []int{longest, longest + 1} {
		for first, want := range []api.Errno{api.ErrOrder, api.ErrEnd} {
			b := bytes.Repeat([]byte{0x00}, n)
			b[0] = byte(first)
			if first == 1 {
				b[1] = 0xFF
			}
			if n > longest {
				want = api.ErrMany
			}
			k.fails(t, b, want)
		}
		b := append(bytes.Repeat([]byte{33, 0}, n/2), make([]byte, n%2)...)
		if n > longest {
			k.fails(t, b, api.ErrMany)
		} else {
			k.fails(t, b, api.ErrOrder)
		}
	}
}

func TestRequestsCutAtEveryByte(t *testing.T)  { testCut(t, requests()) }
func TestResponsesCutAtEveryByte(t *testing.T) { testCut(t, responses()) }

func testCut[M any](t *testing.T, k kind[M]) {
	l := many(2)
	frames := [][]byte{
		frame(33, []byte("other")...), join(numIn(8, 1), numIn(4, len(section(slices.Concat(k.own, l)...))), section(slices.Concat(k.own, l)...)),
		dataOf("bo"), frame(0), join(numIn(2, 0), numIn(8, 2), []byte("dy")), frame(1<<40, []byte("other")...), frame(300, make([]byte, 300)...),
	}
	whole := k.with(l, []byte("body"))
	k.isGot(t, join(frames...), whole)
	var begin []byte
	for n, one := range frames {
		for cut := 1; cut < len(one); cut++ {
			k.fails(t, join(begin, one[:cut]), api.ErrEnd)
		}
		switch {
		case n == 0:
			k.fails(t, begin, api.ErrOrder)
		case n == 1:
			k.fails(t, begin, api.ErrOrder)
		default:
			body := []byte("body")[:[]int{0, 0, 0, 2, 2, 4, 4}[n]]
			k.isGot(t, begin, k.with(l, body))
		}
		begin = append(begin, one...)
	}
	// A cut where a frame ends is a body that is shorter than told.
	told := append(l, field("content-length", "4"))
	k.fails(t, join(k.headWith(told...), dataOf("bo")), api.ErrField)
	k.isGot(t, join(k.headWith(told...), dataOf("bo"), dataOf("dy")), k.with(told, []byte("body")))
	for _, size := range []int{1, 2, 63, 64, 1 << 14, longest, 1 << 30, 1 << 32, 1<<62 - 1} {
		for _, kind := range []int{0, 1, 2, 33, 1<<62 - 1} {
			k.fails(t, join(num(kind), num(size)), api.ErrEnd)
			k.fails(t, join(num(kind), num(size), make([]byte, min(size-1, 1000))), api.ErrEnd)
			k.fails(t, join(k.headWith(), num(kind), num(size), make([]byte, min(size-1, 1000))), api.ErrEnd)
		}
	}
}

func TestNumbersOfRequestsInMoreBytes(t *testing.T)  { testWide(t, requests()) }
func TestNumbersOfResponsesInMoreBytes(t *testing.T) { testWide(t, responses()) }

func testWide[M any](t *testing.T, k kind[M]) {
	told := section(slices.Concat(k.own, many(1))...)
	for _, kind := range []int{1, 2, 4, 8} {
		for _, size := range []int{2, 4, 8} {
			head := join(numIn(kind, 1), numIn(size, len(told)), told)
			data := join(numIn(kind, 0), numIn(size, 4), []byte("body"))
			none := join(numIn(kind, 0), numIn(size, 0))
			other := join(numIn(kind, 2), numIn(size, 1), []byte{1})
			k.isGot(t, head, k.with(many(1), nil))
			k.isGot(t, join(head, data), k.with(many(1), []byte("body")))
			k.isGot(t, join(other, head, other, none, data, none, other), k.with(many(1), []byte("body")))
			k.fails(t, join(data, head), api.ErrOrder)
			k.fails(t, join(head, head), api.ErrOrder)
			k.fails(t, join(head, data, head), api.ErrOrder)
		}
	}
}

// P15.6: frames of other types.

// others are some, of which most look like something else.
func others() [][]byte {
	message := join(headOf(field(":status", "200")), dataOf("body"))
	var l [][]byte
	for _, kind := range []int{2, 3, 4, 5, 7, 13, 33, 63, 64, 65, 256, 257, 1<<14 - 1, 1 << 14, 1<<30 + 1, 1 << 32, 1<<32 + 1, 1<<61 + 1, 1<<62 - 1} {
		l = append(l, frame(kind), frame(kind, 0), frame(kind, message...), frame(kind, requestBytes()...), frame(kind, []byte{0xFF, 0xFF, 0xFF}...))
	}
	return append(l, join(numIn(8, 2), numIn(8, 0)), join(numIn(4, 64), numIn(4, 3), []byte{1, 2, 3}), frame(9, make([]byte, 5000)...))
}

func requestBytes() []byte {
	return requests().headWith()
}

func TestOtherFramesOfRequests(t *testing.T)  { testOthers(t, requests()) }
func TestOtherFramesOfResponses(t *testing.T) { testOthers(t, responses()) }

func testOthers[M any](t *testing.T, k kind[M]) {
	l := append(many(1), field("content-length", "4"))
	frames := [][]byte{k.headWith(l...), dataOf("b"), dataOf(""), dataOf("ody")}
	want := k.with(l, []byte("body"))
	for _, other := range others() {
		for at := range len(frames) + 1 {
			k.isGot(t, join(slices.Insert(slices.Clone(frames), at, other)...), want)
			k.isGot(t, join(slices.Insert(slices.Clone(frames), at, other, other)...), want)
		}
		var all [][]byte
		for _, one := range frames {
			all = append(all, other, one)
		}
		k.isGot(t, join(append(all, other)...), want)
		// They turn no error either.
		k.fails(t, join(other, dataOf("body")), api.ErrOrder)
		k.fails(t, join(frames[0], other, frames[0]), api.ErrOrder)
		k.fails(t, join(other, frames[0], other), api.ErrField)
		k.fails(t, join(other, frame(1), other), api.ErrEnd)
	}
}

func TestFramesOfRequestsInOrder(t *testing.T)  { testOrder(t, requests()) }
func TestFramesOfResponsesInOrder(t *testing.T) { testOrder(t, responses()) }

func testOrder[M any](t *testing.T, k kind[M]) {
	head, body := k.headWith(many(1)...), k.with(many(1), []byte("body"))
	for _, data := range [][]byte{dataOf(""), dataOf("b"), dataOf("body"), dataOf(strings.Repeat("b", 3000))} {
		k.fails(t, data, api.ErrOrder)
		k.fails(t, join(data, head), api.ErrOrder)
		k.fails(t, join(data, head, data), api.ErrOrder)
	}
	for _, second := range [][]byte{head, k.headWith(), headOf(), frame(1), frame(1, 0xFF), headOf(field("a", "trailer")), frame(1, 7, 0)} {
		k.fails(t, join(head, second), api.ErrOrder)
		k.fails(t, join(head, dataOf("body"), second), api.ErrOrder)
		k.fails(t, join(head, dataOf("bo"), second, dataOf("dy")), api.ErrOrder)
		k.fails(t, join(head, frame(33), second), api.ErrOrder)
	}
	for _, frames := range [][][]byte{
		{dataOf("body")}, {dataOf("b"), dataOf("o"), dataOf("d"), dataOf("y")}, {dataOf("bo"), dataOf("dy")},
		{dataOf(""), dataOf("body")}, {dataOf("body"), dataOf("")}, {dataOf(""), dataOf(""), dataOf("bod"), dataOf(""), dataOf("y"), dataOf("")},
	} {
		k.isGot(t, join(head, join(frames...)), body)
	}
	for _, n := range []int{1, 2, 100} {
		k.isGot(t, join(head, bytes.Repeat(dataOf(""), n)), k.with(many(1), nil))
		k.isGot(t, join(head, bytes.Repeat(dataOf("ab"), n)), k.with(many(1), bytes.Repeat([]byte("ab"), n)))
	}
}

// faulty are sections that layer 14 does not decode, with its errors.
func faulty() map[string]api.Errno {
	line := section(field("a", "b"))[2:]
	long := string(section(sized(1, 513)))
	return map[string]api.Errno{
		"":                   api.ErrEnd,
		"\x00":               api.ErrEnd,
		"\x00\x00\x50":       api.ErrEnd,
		"\x00\x00\x21a\x05b": api.ErrEnd,
		"\x01\x00":           api.ErrWait,
		"\x01":               api.ErrWait,
		"\x09\x00\xC1":       api.ErrWait,
		"\x00\x80":           api.ErrForm,
		"\x00\x00\xFF" + strings.Repeat("\xFF", 9): api.ErrForm,
		"\x00\x00\xD8":                api.ErrTable,
		"\x00\x00\x80":                api.ErrTable,
		"\x00\x00\x10":                api.ErrTable,
		"\x00\x00\x40\x00":            api.ErrTable,
		"\x00\x00\x29\xFF\x00":        api.ErrHuff,
		"\x00\x00\x21a\x81\x00":       api.ErrHuff,
		string(section(sized(65, 0))): api.ErrField,
		long:                          api.ErrField,
		"\x00\x00" + strings.Repeat(string(line), 65):       api.ErrMany,
		"\x00\x00" + strings.Repeat(string(line), 64) + "P": api.ErrMany,
		"\x00\x00" + strings.Repeat("\xC1", 65):             api.ErrMany,
		string(section(many(65)...)):                        api.ErrMany,
		string(section(many(64)...)) + long[2:]:             api.ErrMany,
	}
}

func TestHeadsOfRequestsThatAreNotDecoded(t *testing.T)  { testFaulty(t, requests()) }
func TestHeadsOfResponsesThatAreNotDecoded(t *testing.T) { testFaulty(t, responses()) }

func testFaulty[M any](t *testing.T, k kind[M]) {
	seen := map[api.Errno]bool{}
	for told, why := range faulty() {
		seen[why] = true
		head := frame(1, []byte(told)...)
		k.fails(t, head, why)
		k.fails(t, join(head, dataOf("body")), why)
		k.fails(t, join(head, dataOf(strings.Repeat("b", 3000))), why)
		// Frame by frame: what is wrong behind it is not looked at, and what is wrong ahead of it is.
		k.fails(t, join(head, []byte{0}), why)
		k.fails(t, join(head, []byte{0, 9}), why)
		k.fails(t, join(head, k.headWith()), why)
		k.fails(t, join(frame(33, 1), head, head), why)
		k.fails(t, join(dataOf("body"), head), api.ErrOrder)
		k.fails(t, join(k.headWith(), head), api.ErrOrder)
		k.fails(t, join([]byte{1}, num(len(told)+1), []byte(told)), api.ErrEnd)
	}
	if len(seen) != 7 {
		t.Fatalf("these errors are asked for: %v", seen)
	}
	// A field that is wrong by its own, behind the others, is found ahead of what the others lack.
	k.fails(t, headOf(append(many(3), sized(65, 0))...), api.ErrField)
	k.fails(t, frame(1, append(section(many(3)...), 0xD8)...), api.ErrTable)
}

func TestHeadsOfRequests(t *testing.T)  { testHeads(t, requests()) }
func TestHeadsOfResponses(t *testing.T) { testHeads(t, responses()) }

func testHeads[M any](t *testing.T, k kind[M]) {
	bad := func(l ...api.Field) {
		t.Helper()
		k.fails(t, headOf(l...), api.ErrField)
		k.fails(t, join(headOf(l...), dataOf("body")), api.ErrField)
		// A head that may not be goes ahead of a body that is too long.
		k.fails(t, join(headOf(l...), dataOf(strings.Repeat("b", 2049))), api.ErrField)
	}
	bad()
	bad(many(1)...)
	bad(many(64)...)
	for n, own := range k.own {
		without := slices.Delete(slices.Clone(k.own), n, n+1)
		for _, behind := range [][]api.Field{nil, many(1), many(3)} {
			with := func(parts ...[]api.Field) []api.Field { return append(slices.Concat(parts...), behind...) }
			one := []api.Field{own}
			bad(with(without)...)
			bad(with(k.own, one)...)
			bad(with(one, k.own)...)
			bad(with(without, one, one)...)
			bad(with(without, many(1), one)...)
			bad(with(many(1), k.own)...)
			bad(with(k.own[:n], many(1), k.own[n:])...)
			bad(with(without, []api.Field{field(strings.ToUpper(own.Name), own.Value)})...)
			bad(with(without, []api.Field{field(own.Name[1:], own.Value)})...)
			bad(with(without, []api.Field{field(own.Name+" ", own.Value)})...)
			bad(with(without, []api.Field{field("", own.Value)})...)
			bad(append(with(k.own), own)...)
			if len(behind) > 0 {
				bad(append(with(without), own)...)
			}
			bad(with(k.own, []api.Field{field(own.Name, "other")})...)
		}
	}
	for _, f := range k.foul {
		own := slices.Clone(k.own)
		own[k.place(f)] = f
		bad(own...)
		bad(append(own, many(3)...)...)
	}
	for _, f := range []api.Field{{}, field("Name", "v"), field("name", " v"), field("name", "v\t"), field("name", "\x00"), field(":name", "v"), field("n:", "v"), field("n`", "v"), field("\xFF", "v"), field("name", "\x7F")} {
		for _, l := range around(f) {
			bad(slices.Concat(k.own, l)...)
		}
	}
}

// The fields ahead of all others may stand in any order.
func TestHeadsOfRequestsInAnyOrder(t *testing.T) {
	k := requests()
	want := k.with(many(2), nil)
	count := 0
	for n := range 256 {
		order := []int{n >> 6, n >> 4 & 3, n >> 2 & 3, n & 3}
		var own []api.Field
		for _, place := range order {
			own = append(own, k.own[place])
		}
		b := headOf(slices.Concat(own, many(2))...)
		slices.Sort(order)
		if slices.Equal(order, []int{0, 1, 2, 3}) {
			count++
			k.isGot(t, b, want)
		} else {
			k.fails(t, b, api.ErrField)
		}
	}
	if count != 24 {
		t.Fatalf("%d orders were asked for", count)
	}
}

// A head of the other kind is none of this.
func TestHeadsOfTheOtherKind(t *testing.T) {
	a, b := requests(), responses()
	for _, l := range [][]api.Field{nil, many(1), many(59)} {
		a.fails(t, b.headWith(l...), api.ErrField)
		b.fails(t, a.headWith(l...), api.ErrField)
		a.fails(t, a.headWith(slices.Concat(l, b.own)...), api.ErrField)
		b.fails(t, b.headWith(slices.Concat(l[:min(3, len(l))], a.own)...), api.ErrField)
		b.fails(t, headOf(slices.Concat(a.own, b.own)...), api.ErrField)
	}
	for n := range a.own {
		mixed := slices.Clone(a.own)
		mixed[n] = b.own[0]
		a.fails(t, headOf(mixed...), api.ErrField)
		b.fails(t, headOf(b.own[0], a.own[n]), api.ErrField)
	}
}

func TestStatusesThatAreGot(t *testing.T) {
	k := responses()
	for status := range 11000 {
		text := strconv.Itoa(status)
		b := headOf(field(":status", text))
		if status < 200 || status > 599 {
			k.fails(t, b, api.ErrField)
		} else {
			k.isGot(t, b, api.Response{Status: status})
			k.fails(t, headOf(field(":status", "0"+text)), api.ErrField)
			k.fails(t, headOf(field(":status", "+"+text)), api.ErrField)
			k.fails(t, headOf(field(":status", text+"0")), api.ErrField)
			k.fails(t, headOf(field(":status", text[:2])), api.ErrField)
			k.fails(t, headOf(field(":status", text), field(":status", text)), api.ErrField)
		}
	}
}

func TestLengthsOfRequestsThatAreGot(t *testing.T)  { testLengthsGot(t, requests()) }
func TestLengthsOfResponsesThatAreGot(t *testing.T) { testLengthsGot(t, responses()) }

func testLengthsGot[M any](t *testing.T, k kind[M]) {
	for _, size := range []int{0, 1, 9, 10, 11, 2047, 2048} {
		body := []byte(strings.Repeat("b", size))
		data := frame(0, body...)
		right := field("content-length", strconv.Itoa(size))
		for _, l := range around(right) {
			k.isGot(t, join(k.headWith(l...), data), k.with(l, body))
		}
		for _, value := range wrongLengths(size) {
			wrong := field("content-length", value)
			for _, l := range around(wrong) {
				k.fails(t, join(k.headWith(l...), data), api.ErrField)
			}
			k.fails(t, join(k.headWith(wrong, right), data), api.ErrField)
			k.fails(t, join(k.headWith(right, wrong), data), api.ErrField)
			k.fails(t, join(k.headWith(wrong, wrong), data), api.ErrField)
		}
		k.fails(t, join(k.headWith(right, right), data), api.ErrField)
		k.fails(t, join(k.headWith(right, field("a", "b"), right), data), api.ErrField)
	}
	// Twice goes ahead of a body that is too long, but what one of them says does not, unless it may be no field's.
	data := dataOf(strings.Repeat("b", 2049))
	right := field("content-length", "2049")
	k.fails(t, join(k.headWith(right), data), api.ErrMany)
	k.fails(t, join(k.headWith(right, right), data), api.ErrField)
	for _, value := range wrongLengths(2049) {
		wrong := field("content-length", value)
		want := api.ErrMany
		if !mayBe(wrong) {
			want = api.ErrField
		}
		k.fails(t, join(k.headWith(wrong), data), want)
		k.fails(t, join(k.headWith(right, wrong), data), api.ErrField)
		k.fails(t, join(k.headWith(wrong, right), data), api.ErrField)
		k.fails(t, join(k.headWith(wrong, wrong), data), api.ErrField)
	}
}

func TestManyFieldsOfRequestsThatAreGot(t *testing.T)  { testManyGot(t, requests()) }
func TestManyFieldsOfResponsesThatAreGot(t *testing.T) { testManyGot(t, responses()) }

func testManyGot[M any](t *testing.T, k kind[M]) {
	for _, n := range []int{0, 1, 59, 60, 61, 62, 63, 64, 65, 66, 100} {
		if n <= k.most {
			k.isGot(t, k.headWith(many(n)...), k.with(many(n), nil))
		} else {
			k.fails(t, k.headWith(many(n)...), api.ErrMany)
		}
		// Without one of those that it must have there is room for one more, but it may not be.
		want := api.ErrField
		if len(k.own)-1+n > 64 {
			want = api.ErrMany
		}
		k.fails(t, headOf(slices.Concat(k.own[1:], many(n))...), want)
	}
	widest := slices.Repeat([]api.Field{sized(64, 512)}, k.most)
	k.isGot(t, join(k.headWith(widest...), dataOf(strings.Repeat("b", 2048))), k.with(widest, []byte(strings.Repeat("b", 2048))))
}

func TestLongBodiesOfRequests(t *testing.T)  { testLongBodies(t, requests()) }
func TestLongBodiesOfResponses(t *testing.T) { testLongBodies(t, responses()) }

func testLongBodies[M any](t *testing.T, k kind[M]) {
	head := k.headWith(many(1)...)
	for _, size := range []int{0, 1, 63, 64, 2047, 2048, 2049, 2050, 4096, 60000} {
		body := []byte(strings.Repeat("body", size))[:size]
		for _, piece := range []int{1, 7, 64, 1000, 2048, 2049, 60000} {
			b := bytes.Clone(head)
			for part := range slices.Chunk(body, piece) {
				b = append(b, join(frame(0, part...), frame(33))...)
			}
			switch {
			case len(b) > longest, size > 2048:
				k.fails(t, b, api.ErrMany)
			default:
				k.isGot(t, b, k.with(many(1), body))
			}
		}
	}
}

// Which error is answered, where several apply.

func TestWhichErrorOfBytesOfRequests(t *testing.T)  { testWhichGot(t, requests()) }
func TestWhichErrorOfBytesOfResponses(t *testing.T) { testWhichGot(t, responses()) }

func testWhichGot[M any](t *testing.T, k kind[M]) {
	head, foul, cut := k.headWith(), headOf(field("a", "b")), []byte{0, 63, 'x'}
	undone := frame(1, 0, 0, 0xD8)
	long := dataOf(strings.Repeat("b", 2049))
	for _, one := range []struct {
		b    []byte
		want api.Errno
	}{
		{join(head, cut), api.ErrEnd},
		{join(foul, cut), api.ErrEnd},
		{join(foul, head), api.ErrOrder},
		{join(foul, long), api.ErrField},
		{join(foul, long, cut), api.ErrEnd},
		{join(foul, long, head), api.ErrOrder},
		{join(head, long), api.ErrMany},
		{join(head, long, cut), api.ErrEnd},
		{join(head, long, head), api.ErrOrder},
		{join(head, long, undone), api.ErrOrder},
		{join(undone, long, cut), api.ErrTable},
		{join(undone, head), api.ErrTable},
		{join(dataOf("x"), undone), api.ErrOrder},
		{join(dataOf("x"), cut), api.ErrOrder},
		{join(cut, head), api.ErrEnd},
		{join(cut[:2], head[:1]), api.ErrEnd},
		{join([]byte{33, 5}, head[:2]), api.ErrEnd},
		{cut, api.ErrEnd},
		{cut[:1], api.ErrEnd},
		{head[:1], api.ErrEnd},
		{join(head, head[:len(head)-1]), api.ErrEnd},
		{join(head, undone[:len(undone)-1]), api.ErrEnd},
		{undone[:len(undone)-1], api.ErrEnd},
		{join(frame(33), cut), api.ErrEnd},
		{join(frame(33), []byte{0x40}), api.ErrEnd},
		{join(frame(33), dataOf("")), api.ErrOrder},
		{join(head, frame(33), []byte{0xC0, 0, 0, 0, 0, 0, 0}), api.ErrEnd},
		{join(k.headWith(field("content-length", "9")), long), api.ErrMany},
		{join(k.headWith(field("content-length", "9"), field("A", "")), long), api.ErrField},
		{join(k.headWith(field("content-length", "9")), cut), api.ErrEnd},
		{join(k.headWith(field("content-length", "9")), dataOf("x"), head), api.ErrOrder},
	} {
		k.fails(t, one.b, one.want)
	}
}
