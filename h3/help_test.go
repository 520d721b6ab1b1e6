package h3

import (
	"bytes"
	"encoding/binary"
	"regexp"
	"slices"
	"strconv"
	"strings"
	"testing"

	"turnbuckle/api"
	"turnbuckle/qpack"
)

const (
	// longest is of how many bytes a message is got.
	longest = 1 << 16
	// markBytes are those of names that are no letters and no digits.
	markBytes = "!#$%&'*+-.^_|~"
)

func field(name, value string) api.Field {
	return api.Field{Name: name, Value: value}
}

// sized is a field with so many bytes.
func sized(name, value int) api.Field {
	return field(strings.Repeat("n", name), strings.Repeat("v", value))
}

// many are so many fields.
func many(n int) []api.Field {
	var l []api.Field
	for i := range n {
		l = append(l, field("name-"+strconv.Itoa(i), "value "+strconv.Itoa(i)))
	}
	return l
}

func join(parts ...[]byte) []byte {
	return slices.Concat(parts...)
}

// kind is one of both kinds of messages, and what the package does with it.
type kind[M any] struct {
	check func(M) api.Errno
	put   func(M) ([]byte, api.Errno)
	get   func([]byte) (M, api.Errno)
	same  func(a, b M) bool
	most  int         // Fields
	own   []api.Field // what the plain message's head has ahead of all others
	foul  []api.Field // of these, with values that may not be
	with  func(fields []api.Field, body []byte) M
	parts func(M) (own, fields []api.Field, body []byte)
	// what may be, by patterns
	patterns map[string]string
}

func requests() kind[api.Request] {
	return kind[api.Request]{
		check: CheckRequest, put: PutRequest, get: GetRequest, same: SameRequest,
		most: 60,
		own:  []api.Field{field(":method", "GET"), field(":scheme", "https"), field(":authority", "a"), field(":path", "/")},
		foul: []api.Field{
			field(":method", ""), field(":method", "GE T"), field(":method", strings.Repeat("M", 65)),
			field(":scheme", ""), field(":scheme", "HTTPS"), field(":scheme", "ftp"),
			field(":authority", ""), field(":authority", "A"), field(":authority", strings.Repeat("a", 256)),
			field(":path", ""), field(":path", "a"), field(":path", "/ "),
		},
		with: func(fields []api.Field, body []byte) api.Request {
			return api.Request{Method: "GET", Scheme: "https", Host: "a", Path: "/", Fields: fields, Body: body}
		},
		parts: func(r api.Request) ([]api.Field, []api.Field, []byte) {
			return []api.Field{field(":method", r.Method), field(":scheme", r.Scheme), field(":authority", r.Host), field(":path", r.Path)}, r.Fields, r.Body
		},
		patterns: map[string]string{
			":method":    `[A-Za-z0-9!#$%&'*+\-.^_|~]{1,64}`,
			":scheme":    `https?`,
			":authority": `[a-z0-9\-.:\[\]_]{1,255}`,
			":path":      `/[\x21-\x7E]{0,511}`,
		},
	}
}

func responses() kind[api.Response] {
	return kind[api.Response]{
		check: CheckResponse, put: PutResponse, get: GetResponse, same: SameResponse,
		most: 63,
		own:  []api.Field{field(":status", "200")},
		foul: []api.Field{
			field(":status", ""), field(":status", "0"), field(":status", "20"), field(":status", "99"), field(":status", "100"), field(":status", "199"), field(":status", "600"), field(":status", "999"),
			field(":status", "0200"), field(":status", "2000"), field(":status", "+20"), field(":status", "-20"), field(":status", "+200"), field(":status", "-200"),
			field(":status", "2e2"), field(":status", "abc"), field(":status", "20O"), field(":status", " 200"), field(":status", "200 "), field(":status", "2 0"), field(":status", "020"), field(":status", "2_0"), field(":status", "0x2"),
			field(":status", "\u0662\u0660\u0660"), field(":status", "99999999999999999999"), field(":status", "18446744073709551816"), field(":status", "200.0"),
		},
		with: func(fields []api.Field, body []byte) api.Response {
			return api.Response{Status: 200, Fields: fields, Body: body}
		},
		parts: func(r api.Response) ([]api.Field, []api.Field, []byte) {
			return []api.Field{field(":status", strconv.Itoa(r.Status))}, r.Fields, r.Body
		},
		patterns: map[string]string{":status": `[2-5][0-9][0-9]`},
	}
}

// compiled are the patterns that were asked for.
var compiled = map[string]*regexp.Regexp{}

// matches tells whether all of a text is of a pattern.
func matches(pattern, text string) bool {
	if compiled[pattern] == nil {
		compiled[pattern] = regexp.MustCompile(`\A(?:` + pattern + `)\z`)
	}
	return compiled[pattern].MatchString(text)
}

// mayBe tells by patterns whether a field may be.
func mayBe(f api.Field) bool {
	return len(f.Value) <= 512 && matches(`[a-z0-9!#$%&'*+\-.^_|~]{1,64}`, f.Name) &&
		matches(`|[\x21-\x7E]|[\x21-\x7E][\x21-\x7E \t]*[\x21-\x7E]`, f.Value)
}

// headMayBe tells by patterns whether a head may be, the length aside, and parts it.
func (k kind[M]) headMayBe(head []api.Field) bool {
	if len(head) < len(k.own) {
		return false
	}
	seen := map[string]bool{}
	for _, f := range head[:len(k.own)] {
		pattern, ok := k.patterns[f.Name]
		if !ok || seen[f.Name] || !matches(pattern, f.Value) {
			return false
		}
		seen[f.Name] = true
	}
	lengths := 0
	for _, f := range head[len(k.own):] {
		if !mayBe(f) {
			return false
		}
		if f.Name == "content-length" {
			lengths++
		}
	}
	return lengths < 2
}

// wrong tells in the plain way what is wrong with a message.
func (k kind[M]) wrong(own, fields []api.Field, body []byte) api.Errno {
	if len(fields) > k.most || len(body) > 2048 {
		return api.ErrMany
	}
	if !k.headMayBe(slices.Concat(own, fields)) {
		return api.ErrField
	}
	for _, f := range fields {
		if f.Name == "content-length" && f.Value != strconv.Itoa(len(body)) {
			return api.ErrField
		}
	}
	return api.OK
}

// varint takes the next number of layer 1 off bytes, the plain way.
func varint(b []byte) (int, []byte, bool) {
	if len(b) == 0 {
		return 0, nil, false
	}
	width := 1 << (b[0] >> 6)
	if len(b) < width {
		return 0, nil, false
	}
	wide := append(make([]byte, 8-width), b[:width]...)
	wide[8-width] &= 0x3F
	return int(binary.BigEndian.Uint64(wide)), b[width:], true
}

// numIn is a number of layer 1 in so many bytes.
func numIn(width, n int) []byte {
	b := binary.BigEndian.AppendUint64(nil, uint64(n))[8-width:]
	b[0] |= map[int]byte{1: 0x00, 2: 0x40, 4: 0x80, 8: 0xC0}[width]
	return b
}

// num is a number of layer 1 in as few bytes as can be.
func num(n int) []byte {
	for _, width := range []int{1, 2, 4} {
		if n < 1<<(8*width-2) {
			return numIn(width, n)
		}
	}
	return numIn(8, n)
}

func frame(kind int, told ...byte) []byte {
	return join(num(kind), num(len(told)), told)
}

func dataOf(text string) []byte {
	return frame(0, []byte(text)...)
}

// pintOf is a number with a prefix of layer 11.
func pintOf(first, bits, n int) []byte {
	full := 1<<bits - 1
	if n < full {
		return []byte{byte(first + n)}
	}
	b := []byte{byte(first + full)}
	for n -= full; n >= 128; n /= 128 {
		b = append(b, byte(n%128+128))
	}
	return append(b, byte(n))
}

// section tells fields by their names and values, and by nothing else.
func section(l ...api.Field) []byte {
	b := []byte{0, 0}
	for _, f := range l {
		b = join(b, pintOf(0x20, 3, len(f.Name)), []byte(f.Name), pintOf(0, 7, len(f.Value)), []byte(f.Value))
	}
	return b
}

func headOf(l ...api.Field) []byte {
	return frame(1, section(l...)...)
}

// headWith is a head of the plain message with these fields.
func (k kind[M]) headWith(fields ...api.Field) []byte {
	return headOf(slices.Concat(k.own, fields)...)
}

// parted are the parts of bytes, got in the plain way.
type parted struct {
	own, fields []api.Field
	body        []byte
	why         api.Errno
}

// slow gets bytes in the plain way.
func (k kind[M]) slow(b []byte) parted {
	if len(b) > longest {
		return parted{why: api.ErrMany}
	}
	var heads [][]api.Field
	var body []byte
	for len(b) > 0 {
		kind, rest, one := varint(b)
		size, rest, other := varint(rest)
		if !one || !other || size > len(rest) {
			return parted{why: api.ErrEnd}
		}
		if kind == 0 && len(heads) == 0 || kind == 1 && len(heads) == 1 {
			return parted{why: api.ErrOrder}
		}
		switch kind {
		case 0:
			body = append(body, rest[:size]...)
		case 1:
			d, _ := qpack.NewDecoder(0)
			head, fault := d.Decode(rest[:size])
			if fault.Why != api.OK {
				return parted{why: fault.Why}
			}
			heads = append(heads, head)
		}
		b = rest[size:]
	}
	if len(heads) == 0 {
		return parted{why: api.ErrOrder}
	}
	if !k.headMayBe(heads[0]) {
		return parted{why: api.ErrField}
	}
	own, fields := heads[0][:len(k.own)], heads[0][len(k.own):]
	slices.SortFunc(own, func(a, b api.Field) int { return k.place(a) - k.place(b) })
	if why := k.wrong(own, fields, body); why != api.OK {
		return parted{why: why}
	}
	return parted{own: own, fields: fields, body: body}
}

// place is where a field of a head stands in the plain message's.
func (k kind[M]) place(f api.Field) int {
	return slices.IndexFunc(k.own, func(o api.Field) bool { return o.Name == f.Name })
}

// sameParts tells in the plain way whether two messages are the same.
func (k kind[M]) sameParts(a, b M) bool {
	own, fields, body := k.parts(a)
	otherOwn, otherFields, otherBody := k.parts(b)
	return slices.Equal(own, otherOwn) && slices.Equal(fields, otherFields) && bytes.Equal(body, otherBody)
}

// isZero tells whether a message is nothing at all.
func (k kind[M]) isZero(m M) bool {
	var none M
	_, fields, body := k.parts(m)
	return fields == nil && body == nil && k.sameParts(m, none)
}

// gets holds the package against the plain way, and answers what was got.
func (k kind[M]) gets(t *testing.T, b []byte) (M, api.Errno) {
	t.Helper()
	m, why := k.get(b)
	want := k.slow(b)
	if why != want.why {
		t.Fatalf("get of %s is %v, not %v", brief(b), why, want.why)
	}
	if why != api.OK {
		if !k.isZero(m) {
			t.Fatalf("get of %s is %v, and %v", brief(b), why, m)
		}
		return m, why
	}
	own, fields, body := k.parts(m)
	if !slices.Equal(own, want.own) || !slices.Equal(fields, want.fields) || !bytes.Equal(body, want.body) {
		t.Fatalf("get of %s is %v, not %v", brief(b), m, want)
	}
	return m, why
}

// fails asks for the error of bytes.
func (k kind[M]) fails(t *testing.T, b []byte, want api.Errno) {
	t.Helper()
	if _, why := k.gets(t, b); why != want {
		t.Fatalf("get of %s is %v, not %v", brief(b), why, want)
	}
}

// isGot asks for the message of bytes.
func (k kind[M]) isGot(t *testing.T, b []byte, want M) {
	t.Helper()
	if m, why := k.gets(t, b); why != api.OK || !k.sameParts(m, want) {
		t.Fatalf("get of %s is %v, %v, not %v", brief(b), m, why, want)
	}
}

// goes asks that a message may be, and is put as one frame or two, and got as the same.
func (k kind[M]) goes(t *testing.T, m M) []byte {
	t.Helper()
	own, fields, body := k.parts(m)
	if why := k.wrong(own, fields, body); why != api.OK {
		t.Fatalf("the test has %v as right, which is %v", m, why)
	}
	if why := k.check(m); why != api.OK {
		t.Fatalf("check of %v is %v", m, why)
	}
	b, why := k.put(m)
	if why != api.OK {
		t.Fatalf("put of %v is %v", m, why)
	}
	k.framed(t, b, m)
	k.isGot(t, b, m)
	return b
}

// framed asks that bytes are a message's one frame or two, told in as few bytes as can be.
func (k kind[M]) framed(t *testing.T, b []byte, m M) {
	t.Helper()
	own, fields, body := k.parts(m)
	_, rest, _ := varint(b)
	size, rest, ok := varint(rest)
	if !ok || size > len(rest) {
		t.Fatalf("put of %v is %x", m, b)
	}
	d, _ := qpack.NewDecoder(0)
	head, fault := d.Decode(rest[:size])
	if fault != (api.Fault{}) || len(head) < len(own) {
		t.Fatalf("put of %v has a head that is %q, %v", m, head, fault)
	}
	slices.SortFunc(head[:len(own)], func(a, b api.Field) int { return k.place(a) - k.place(b) })
	if !slices.Equal(head, slices.Concat(own, fields)) {
		t.Fatalf("put of %v has the head %q", m, head)
	}
	want := frame(1, rest[:size]...)
	if len(body) > 0 {
		want = join(want, frame(0, body...))
	}
	if !bytes.Equal(b, want) {
		t.Fatalf("put of %v is %x, not %x", m, b, want)
	}
}

// refuses asks for the error of a message, from check and put alike.
func (k kind[M]) refuses(t *testing.T, m M, want api.Errno) {
	t.Helper()
	own, fields, body := k.parts(m)
	if why := k.wrong(own, fields, body); why != want {
		t.Fatalf("the test has %v of %v, which is %v", want, m, why)
	}
	if why := k.check(m); why != want {
		t.Fatalf("check of %v is %v, not %v", m, why, want)
	}
	if b, why := k.put(m); b != nil || why != want {
		t.Fatalf("put of %v is %x, %v, not %v", m, b, why, want)
	}
}

// brief are bytes, as far as one may read them.
func brief(b []byte) string {
	if len(b) > 400 {
		return strconv.Quote(string(b[:400])) + " and so on, " + strconv.Itoa(len(b)) + " bytes,"
	}
	return strconv.Quote(string(b))
}
