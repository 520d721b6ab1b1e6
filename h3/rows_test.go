package h3

import (
	"bytes"
	"math/rand"
	"slices"
	"strconv"
	"strings"
	"testing"

	"turnbuckle/api"
)

// anyOf is one of some.
func anyOf[T any](r *rand.Rand, some ...T) T {
	return some[r.Intn(len(some))]
}

// anyText is a text of so many bytes at most.
func anyText(r *rand.Rand, some string, most int) string {
	b := make([]byte, r.Intn(anyOf(r, 4, 12, most+1)))
	for n := range b {
		b[n] = some[r.Intn(len(some))]
	}
	return string(b)
}

const (
	anyName  = "abcdefghijklmnopqrstuvwxyz0123456789" + markBytes
	anyValue = "abcXYZ019 \t,;=\"/:`~!"
)

// anyField may be, most often.
func anyField(r *rand.Rand, size int) api.Field {
	switch r.Intn(40) {
	case 0:
		return field("content-length", strconv.Itoa(size))
	case 1:
		return anyOf(r, field("content-length", strconv.Itoa(r.Intn(9))), field(":path", "/"), field(":status", "200"), field("Age", "0"), field("", "v"), field("age", " 0"), field("age", "\x00"), sized(65, 0), sized(0, 513))
	case 2, 3, 4:
		return anyOf(r, field("age", "0"), field("cache-control", "max-age=60"), field("etag", "\"x\""), field("date", ""), field("vary", "accept-encoding"))
	}
	return field("n"+anyText(r, anyName, 63), strings.Trim(anyText(r, anyValue, 512), " \t"))
}

func anyBody(r *rand.Rand) []byte {
	b := make([]byte, r.Intn(anyOf(r, 1, 10, 100, 2060)))
	r.Read(b)
	return b
}

// anyRest is what both kinds of messages have.
func anyRest(r *rand.Rand, most int) ([]api.Field, []byte) {
	body := anyBody(r)
	l := make([]api.Field, r.Intn(anyOf(r, 1, 5, 20, most+2)))
	for n := range l {
		l[n] = anyField(r, len(body))
	}
	return l, body
}

func anyRequest(r *rand.Rand) api.Request {
	fields, body := anyRest(r, 60)
	q := api.Request{Method: anyOf(r, "GET", "HEAD", "PUT", "M"+anyText(r, anyName+"ABC", 63)), Scheme: anyOf(r, "http", "https"), Host: "h" + anyText(r, "abc09-.:[]_", 254), Path: "/" + anyText(r, "abcABC/?&=%~!\x21\x7E", 511), Fields: fields, Body: body}
	if r.Intn(20) == 0 {
		*anyOf(r, &q.Method, &q.Scheme, &q.Host, &q.Path) = anyOf(r, "", "x", " ", "A B", strings.Repeat("x", 513))
	}
	return q
}

func anyResponse(r *rand.Rand) api.Response {
	fields, body := anyRest(r, 63)
	s := api.Response{Status: 200 + r.Intn(400), Fields: fields, Body: body}
	if r.Intn(20) == 0 {
		s.Status = r.Intn(1000)
	}
	return s
}

// P15.2 and P15.4: what is put is got, and what is refused has no bytes.

func TestRowsOfRequests(t *testing.T)  { testRows(t, requests(), anyRequest) }
func TestRowsOfResponses(t *testing.T) { testRows(t, responses(), anyResponse) }

func testRows[M any](t *testing.T, k kind[M], one func(*rand.Rand) M) {
	r := rand.New(rand.NewSource(15))
	right := 0
	for range 4000 {
		m := one(r)
		if why := k.wrong(k.parts(m)); why != api.OK {
			k.refuses(t, m, why)
			continue
		}
		right++
		k.goes(t, m)
	}
	if right < 1000 || right > 3500 {
		t.Fatalf("%d of 4000 may be", right)
	}
}

func TestRowsOfSameRequests(t *testing.T)  { testRowsSame(t, requests(), anyRequest) }
func TestRowsOfSameResponses(t *testing.T) { testRowsSame(t, responses(), anyResponse) }

func testRowsSame[M any](t *testing.T, k kind[M], one func(*rand.Rand) M) {
	for n := range 500 {
		a := one(rand.New(rand.NewSource(int64(n))))
		b := one(rand.New(rand.NewSource(int64(n))))
		other := one(rand.New(rand.NewSource(int64(n + 1))))
		sames(t, k, a, b, true)
		sames(t, k, a, other, k.sameParts(a, other))
	}
}

// anyBytes are frames of a message, with all that may stand between them, and sometimes what may not.
func anyBytes(r *rand.Rand, own, fields []api.Field, body []byte) []byte {
	own = slices.Clone(own)
	r.Shuffle(len(own), func(a, b int) { own[a], own[b] = own[b], own[a] })
	told := section(slices.Concat(own, fields)...)
	frames := [][]byte{join(numIn(anyOf(r, 1, 2, 4, 8), 1), numIn(anyOf(r, 4, 8), len(told)), told)}
	for len(body) > 0 || r.Intn(4) == 0 {
		n := r.Intn(anyOf(r, 2, 30, 3000))
		n = min(n, len(body))
		frames = append(frames, join(numIn(anyOf(r, 1, 2, 4, 8), 0), numIn(anyOf(r, 2, 4, 8), n), body[:n]))
		body = body[n:]
	}
	for range r.Intn(4) {
		frames = slices.Insert(frames, r.Intn(len(frames)+1), anyOf(r, others()...))
	}
	switch r.Intn(20) {
	case 0:
		a, b := r.Intn(len(frames)), r.Intn(len(frames))
		frames[a], frames[b] = frames[b], frames[a]
	case 1:
		frames = slices.Insert(frames, r.Intn(len(frames)), frames[r.Intn(len(frames))])
	case 2:
		frames = slices.Delete(frames, 0, 1)
	}
	return join(frames...)
}

// turned has some bytes that are others, or is cut.
func turned(r *rand.Rand, b []byte) []byte {
	b = bytes.Clone(b)
	for range r.Intn(3) {
		if len(b) > 0 {
			b[r.Intn(min(len(b), anyOf(r, 8, len(b))))] = byte(r.Intn(256))
		}
	}
	if r.Intn(6) == 0 {
		b = b[:r.Intn(len(b)+1)]
	}
	return b
}

// P15.3, P15.5 and P15.6: whatever is got, it is what the plain way gets; it may be, and is put and got again as the same.

func TestRowsOfBytesOfRequests(t *testing.T)  { testRowsOfBytes(t, requests(), anyRequest) }
func TestRowsOfBytesOfResponses(t *testing.T) { testRowsOfBytes(t, responses(), anyResponse) }

func testRowsOfBytes[M any](t *testing.T, k kind[M], one func(*rand.Rand) M) {
	r := rand.New(rand.NewSource(9114))
	right := map[api.Errno]int{}
	for range 3000 {
		own, fields, body := k.parts(one(r))
		b := anyBytes(r, own, fields, body)
		for _, b := range [][]byte{b, turned(r, b)} {
			m, why := k.gets(t, b)
			right[why]++
			if why == api.OK {
				k.goes(t, m)
			}
		}
	}
	for _, why := range []api.Errno{api.OK, api.ErrEnd, api.ErrOrder, api.ErrField, api.ErrMany} {
		if right[why] < 5 {
			t.Errorf("%v came %d times", why, right[why])
		}
	}
}

// Rows of bytes that nobody thought of.
func TestRowsOfAnyBytes(t *testing.T) {
	r := rand.New(rand.NewSource(3))
	a, b := requests(), responses()
	for range 20000 {
		told := make([]byte, r.Intn(14))
		r.Read(told)
		a.gets(t, told)
		b.gets(t, told)
		if len(told) < 64 {
			a.gets(t, frame(1, told...))
			b.gets(t, frame(1, told...))
			b.gets(t, frame(1, join([]byte{0, 0, 0xC9}, told)...))
			a.gets(t, frame(1, join([]byte{0, 0, 0xC2, 0xC7, 0xC1, 0x50, 1, 'a'}, told)...))
			b.gets(t, join(frame(1, 0, 0, 0xC9), told))
		}
	}
}

// All bytes of a line behind a head that is right.
func TestAllRowsOfTwoBytes(t *testing.T) {
	k := responses()
	for n := range 1 << 16 {
		k.gets(t, []byte{byte(n >> 8), byte(n)})
		k.gets(t, []byte{1, 3, 0, 0, 0xC9, byte(n >> 8), byte(n)})
		k.gets(t, []byte{1, 5, 0, 0, 0xC9, byte(n >> 8), byte(n)})
	}
}

// R4

func TestRequestsThatAreHandedIn(t *testing.T)  { testHandedIn(t, requests(), anyRequest) }
func TestResponsesThatAreHandedIn(t *testing.T) { testHandedIn(t, responses(), anyResponse) }

// A message is neither turned nor kept, nor is the room behind its lists; what was put may be written over.
func testHandedIn[M any](t *testing.T, k kind[M], one func(*rand.Rand) M) {
	r := rand.New(rand.NewSource(4))
	for range 300 {
		_, fields, body := k.parts(one(r))
		room := slices.Concat(fields, many(9))
		behind := join(body, bytes.Repeat([]byte{0xEE}, 4000))
		roomBefore, behindBefore := slices.Clone(room), bytes.Clone(behind)
		m := k.with(room[:len(fields)], behind[:len(body)])
		b, why := k.put(m)
		if why != k.check(m) || why != k.wrong(k.own, fields, body) || !k.same(m, m) || k.same(m, k.with(room[:len(fields)+1], behind[:len(body)])) {
			t.Fatalf("%v is %v", m, why)
		}
		if !slices.Equal(room, roomBefore) || !bytes.Equal(behind, behindBefore) {
			t.Fatalf("%v was turned", m)
		}
		again, _ := k.put(m)
		kept := bytes.Clone(b)
		clear(b[:cap(b)])
		if !bytes.Equal(again, kept) || !slices.Equal(room, roomBefore) || !bytes.Equal(behind, behindBefore) {
			t.Fatalf("what was put of %v is shared", m)
		}
		clear(room)
		clear(behind)
		if !bytes.Equal(again, kept) {
			t.Fatalf("%x keeps what was handed in", again)
		}
	}
}

func TestBytesOfRequestsThatAreHandedIn(t *testing.T)  { testBytesIn(t, requests(), anyRequest) }
func TestBytesOfResponsesThatAreHandedIn(t *testing.T) { testBytesIn(t, responses(), anyResponse) }

// Bytes are neither turned nor kept, nor is the room behind them; what was got may be written over.
func testBytesIn[M any](t *testing.T, k kind[M], one func(*rand.Rand) M) {
	r := rand.New(rand.NewSource(5))
	for range 300 {
		_, fields, _ := k.parts(one(r))
		b := anyBytes(r, k.own, fields, []byte("body"))
		room := join(b, bytes.Repeat([]byte{0xEE}, 200))
		before := bytes.Clone(room)
		m, why := k.get(room[:len(b)])
		again, _ := k.get(room[:len(b)])
		want := k.slow(b)
		if why != want.why || !bytes.Equal(room, before) {
			t.Fatalf("%s is %v, and was turned to %s", brief(before), why, brief(room))
		}
		clear(room)
		_, got, body := k.parts(m)
		if !slices.Equal(got, want.fields) || !bytes.Equal(body, want.body) {
			t.Fatalf("%v keeps what was handed in", m)
		}
		// The one list is written over, with the room behind it, and then the other one.
		clear(got[:cap(got)])
		if !bytes.Equal(body, want.body) {
			t.Fatalf("%v shares its lists", m)
		}
		for n := range body[:cap(body)] {
			body[:cap(body)][n] = 0xDD
		}
		own, got, body := k.parts(again)
		if !slices.Equal(got, want.fields) || !bytes.Equal(body, want.body) || why == api.OK && !slices.Equal(own, want.own) {
			t.Fatalf("%v was written over", again)
		}
	}
}

// R7: a call that answers an error turns no later one.
func TestErrorsTurnNothing(t *testing.T) {
	k := responses()
	m := k.with(many(3), []byte("body"))
	b := k.goes(t, m)
	for told, why := range faulty() {
		k.fails(t, frame(1, []byte(told)...), why)
		k.refuses(t, k.with(many(64), nil), api.ErrMany)
		k.refuses(t, k.with([]api.Field{{}}, nil), api.ErrField)
		if again := k.goes(t, m); !bytes.Equal(again, b) {
			t.Fatalf("put is %x, and then %x", b, again)
		}
		k.isGot(t, b, m)
	}
}
