package h3

import (
	"math"
	"slices"
	"strconv"
	"strings"
	"testing"

	"turnbuckle/api"
)

// P15.1: what may be.

func TestTheChaptersExample(t *testing.T) {
	k := requests()
	r := api.Request{Method: "GET", Scheme: "https", Host: "a", Path: "/"}
	b := k.goes(t, r)
	k.isGot(t, headOf(field(":method", "GET"), field(":scheme", "https"), field(":authority", "a"), field(":path", "/")), r)
	// The same in the fixed table's numbers.
	if want := join([]byte{1, 7, 0, 0, 0xC2, 0xC7, 0x50, 1}, []byte("a"), []byte{0xC1}); len(b) > len(want)+1 {
		t.Fatalf("%x is longer than %x", b, want)
	} else if got, why := GetRequest(frame(1, want[2:]...)); why != api.OK || !SameRequest(got, r) {
		t.Fatalf("%x is %v, %v", want, got, why)
	}
}

// rightField holds RightField against patterns.
func rightField(t *testing.T, f api.Field, want bool) {
	t.Helper()
	if mayBe(f) != want || RightField(f) != want {
		t.Fatalf("RightField(%q) is %v", f, RightField(f))
	}
}

// places are a text with another one first, in the middle, last and alone.
func places(text, other string) []string {
	return []string{other + text, text[:len(text)/2] + other + text[len(text)/2:], text + other, other}
}

func TestBytesOfNames(t *testing.T) {
	for n := range 256 {
		one := string([]byte{byte(n)})
		right := n >= 'a' && n <= 'z' || n >= '0' && n <= '9' || strings.Contains(markBytes, one)
		for _, name := range places("name", one) {
			rightField(t, field(name, "value"), right)
			rightField(t, field(name, ""), right)
			goesOrNot(t, responses(), responses().with([]api.Field{field(name, "value")}, nil), right)
		}
	}
	for _, name := range []string{"n\u00e4me", "\u212Aelvin", "na\x00me", "na me", "na:me", ":name", ":status", ":path", "`", "Name", "NAME", "(", ")", ",", "/", ";", "<", "=", ">", "?", "@", "[", "\\", "]", "{", "}", "\"", "\x7F"} {
		rightField(t, field(name, "value"), false)
	}
}

func TestBytesOfValues(t *testing.T) {
	for n := range 256 {
		one := string([]byte{byte(n)})
		seen, blank := n >= 33 && n <= 126, n == 32 || n == 9
		for i, value := range places("value", one) {
			rightField(t, field("name", value), seen || blank && i == 1)
		}
	}
	for _, value := range []string{"a b", "a\tb", "a \t b", "a  b", "a \t \t\t  b", "A: B, \"C\"; d=(e)", "`~!@#$%^&*()_+", "a " + strings.Repeat(" ", 509) + "b"} {
		rightField(t, field("name", value), true)
		for _, blank := range []string{" ", "\t", " \t", "\t ", "\n", "\v", "\u00a0", "\x00"} {
			rightField(t, field("name", blank+value), false)
			rightField(t, field("name", value+blank), false)
			rightField(t, field("name", blank+value+blank), false)
		}
	}
	for _, value := range []string{" ", "\t", "  ", " \t", "a\nb", "a\r\nb", "a\x00b", "a\x7Fb", "\u00e4", "a\u2003b", "\xFF", "a\xC3", strings.Repeat(" ", 512)} {
		rightField(t, field("name", value), false)
	}
}

func TestLengthsOfFields(t *testing.T) {
	for name := range 70 {
		for _, value := range []int{0, 1, 2, 64, 65, 511, 512, 513, 514, 600, 1024, 1 << 16} {
			rightField(t, sized(name, value), name >= 1 && name <= 64 && value <= 512)
		}
	}
	for _, name := range []int{128, 320, 1 << 16, 1<<16 + 1} {
		rightField(t, sized(name, 1), false)
	}
}

func TestMethods(t *testing.T) {
	k := requests()
	asks := func(method string, right bool) {
		t.Helper()
		m := k.with(nil, nil)
		m.Method = method
		goesOrNot(t, k, m, right)
	}
	for n := range 256 {
		one := string([]byte{byte(n)})
		right := n >= 'a' && n <= 'z' || n >= 'A' && n <= 'Z' || n >= '0' && n <= '9' || strings.Contains(markBytes, one)
		for _, method := range places("GET", one) {
			asks(method, right)
		}
	}
	for length := range 70 {
		asks(strings.Repeat("M", length), length >= 1 && length <= 64)
		asks(strings.Repeat("m", length), length >= 1 && length <= 64)
	}
	for _, method := range []string{"GET", "HEAD", "POST", "PUT", "DELETE", "get", "Get", "M-SEARCH", "!#$%&'*+-.^_|~", "0", "ABCDEFGHIJKLMNOPQRSTUVWXYZ"} {
		asks(method, true)
	}
	asks("GET ", false)
	asks("G\u00cbT", false)
	asks("GET`", false)
}

// goesOrNot asks that a message may be, or that it is refused as no field may be.
func goesOrNot[M any](t *testing.T, k kind[M], m M, right bool) {
	t.Helper()
	if right {
		k.goes(t, m)
	} else {
		k.refuses(t, m, api.ErrField)
	}
}

func TestSchemes(t *testing.T) {
	k := requests()
	for _, scheme := range []string{"http", "https", "", "h", "httpss", "HTTP", "Https", "HTTPS", "ftp", "ws", " http", "http ", "http:", "https://", "httphttps", "http\x00"} {
		m := k.with(nil, nil)
		m.Scheme = scheme
		goesOrNot(t, k, m, scheme == "http" || scheme == "https")
	}
}

func TestHosts(t *testing.T) {
	k := requests()
	asks := func(host string, right bool) {
		t.Helper()
		m := k.with(nil, nil)
		m.Host = host
		goesOrNot(t, k, m, right)
	}
	for n := range 256 {
		one := string([]byte{byte(n)})
		right := n >= 'a' && n <= 'z' || n >= '0' && n <= '9' || strings.Contains("-.:[]_", one)
		for _, host := range places("host", one) {
			asks(host, right)
		}
	}
	for length := range 260 {
		asks(strings.Repeat("h", length), length >= 1 && length <= 255)
	}
	for _, length := range []int{512, 513, 511 + 256, 1 << 16} {
		asks(strings.Repeat("h", length), false)
	}
	for _, host := range []string{"example.org", "example.org:8080", "[::1]", "[2001:db8::1]:443", "127.0.0.1", "_x._y", "-", ":", "[", "]", "."} {
		asks(host, true)
	}
	for _, host := range []string{"Example.org", "user@example.org", "example.org/", "example org", "ex\u00e4mple", "a,b", "a%20b"} {
		asks(host, false)
	}
}

func TestPaths(t *testing.T) {
	k := requests()
	asks := func(path string, right bool) {
		t.Helper()
		m := k.with(nil, nil)
		m.Path = path
		goesOrNot(t, k, m, right)
	}
	for n := range 256 {
		one := string([]byte{byte(n)})
		right := n >= 33 && n <= 126
		asks("/"+one, right)
		asks("/path"+one, right)
		asks("/pa"+one+"th", right)
		asks(one, n == '/')
		asks(one+"path", n == '/')
		asks(one+"/", n == '/')
	}
	for length := range 520 {
		asks(strings.Repeat("/", length), length >= 1 && length <= 512)
		asks("/"+strings.Repeat("p", length), length < 512)
	}
	asks("/"+strings.Repeat("p", 1<<16), false)
	for _, path := range []string{"/a?b=c&d", "/%20", "/a//b/../c", "//", "/*", "/\"<>\\^`{|}~#"} {
		asks(path, true)
	}
	for _, path := range []string{"*", "a/b", "?a", "https://a/", " /", "/ ", "/a b", "/a\tb", "/\u00e4", "/\x7F", "\\"} {
		asks(path, false)
	}
}

func TestStatuses(t *testing.T) {
	k := responses()
	for status := -700; status < 1300; status++ {
		m := k.with(nil, nil)
		m.Status = status
		goesOrNot(t, k, m, status >= 200 && status <= 599)
	}
	for _, status := range []int{math.MinInt, math.MinInt + 200, -1 << 32, 1<<32 + 200, 1 << 62, math.MaxInt, 2000, 20000} {
		m := k.with(nil, nil)
		m.Status = status
		k.refuses(t, m, api.ErrField)
	}
}

// Which fields a message may have; each of these tests is asked of both kinds.

func TestFieldsOfRequests(t *testing.T)  { testFields(t, requests()) }
func TestFieldsOfResponses(t *testing.T) { testFields(t, responses()) }

func testFields[M any](t *testing.T, k kind[M]) {
	for _, f := range []api.Field{sized(1, 0), sized(64, 512), field("age", "0"), field("cookie", "a=b; c=d"), field("status", "200"), field("method", "GET"), field("te", "x"), field("connection", "close")} {
		for _, l := range around(f) {
			k.goes(t, k.with(l, nil))
			k.goes(t, k.with(l, []byte("body")))
		}
	}
	for _, f := range []api.Field{
		{}, field("", "v"), sized(65, 0), sized(1, 513), field("Age", "0"), field("name ", "v"), field("name", " v"), field("name", "v "), field("name", "a\nb"), field("name", "\x00"), field("n\u00e4me", ""),
		field(":", ""), field(":name", "v"), field(":method", "GET"), field(":scheme", "https"), field(":authority", "a"), field(":path", "/"), field(":status", "200"), field("::status", "200"),
	} {
		for _, l := range around(f) {
			k.refuses(t, k.with(l, nil), api.ErrField)
			k.refuses(t, k.with(l, []byte("body")), api.ErrField)
		}
	}
}

// around is a field alone, and first, in the middle and last of others.
func around(f api.Field) [][]api.Field {
	l := many(4)
	return [][]api.Field{{f}, slices.Insert(slices.Clone(l), 0, f), slices.Insert(slices.Clone(l), 2, f), append(l, f)}
}

func TestManyOfRequests(t *testing.T)  { testMany(t, requests()) }
func TestManyOfResponses(t *testing.T) { testMany(t, responses()) }

func testMany[M any](t *testing.T, k kind[M]) {
	for n := range k.most + 1 {
		k.goes(t, k.with(many(n), nil))
	}
	k.goes(t, k.with(slices.Repeat([]api.Field{sized(64, 512)}, k.most), make([]byte, 2048)))
	for _, n := range []int{k.most + 1, k.most + 2, 64, 65, 300} {
		if n > k.most {
			k.refuses(t, k.with(many(n), nil), api.ErrMany)
			k.refuses(t, k.with(many(n), []byte("body")), api.ErrMany)
		}
	}
	for _, size := range []int{0, 1, 63, 64, 2047, 2048} {
		k.goes(t, k.with(nil, make([]byte, size)))
		k.goes(t, k.with(many(3), []byte(strings.Repeat("\xFF", size))))
	}
	for _, size := range []int{2049, 2050, 4096, 1 << 16, 1<<16 + 2048} {
		k.refuses(t, k.with(nil, make([]byte, size)), api.ErrMany)
		k.refuses(t, k.with(many(3), make([]byte, size)), api.ErrMany)
	}
}

// wrongLengths are no lengths of a body of so many bytes.
func wrongLengths(size int) []string {
	right := strconv.Itoa(size)
	l := []string{
		"", "x", right + "x", "x" + right, "-" + right, "+" + right, "0" + right, "00" + right, right + "0", right + ".0", "0x" + right, right + " " + right, right + "," + right, right + ", " + right, "1_0", "1e1", "ten", "-1", "+0", "-0", "00",
		strconv.Itoa(size + 1), strconv.Itoa(size + 256), strconv.Itoa(size + 1<<32),
		"9223372036854775807", "9223372036854775808", "18446744073709551616", "1" + strings.Repeat("0", 511), strings.Repeat("0", 512),
		"\u0661",
	}
	for _, wraps := range []uint64{1 << 63, math.MaxUint64} {
		l = append(l, strconv.FormatUint(wraps, 10))
	}
	// 2^64 and the size: what it would be if numbers went round.
	l = append(l, "1844674407370955"+strconv.Itoa(1616+size))
	if size > 0 {
		l = append(l, "0", strconv.Itoa(size-1))
	}
	return l
}

func TestLengthsOfRequests(t *testing.T)  { testLengths(t, requests()) }
func TestLengthsOfResponses(t *testing.T) { testLengths(t, responses()) }

func testLengths[M any](t *testing.T, k kind[M]) {
	for _, size := range []int{0, 1, 2, 9, 10, 11, 99, 100, 2047, 2048} {
		body := []byte(strings.Repeat("b", size))
		right := field("content-length", strconv.Itoa(size))
		for _, l := range around(right) {
			k.goes(t, k.with(l, body))
		}
		for _, value := range wrongLengths(size) {
			for _, l := range around(field("content-length", value)) {
				k.refuses(t, k.with(l, body), api.ErrField)
			}
			k.refuses(t, k.with([]api.Field{right, field("content-length", value)}, body), api.ErrField)
			k.refuses(t, k.with([]api.Field{field("content-length", value), right}, body), api.ErrField)
			// Of other names it is not asked.
			k2 := field("content-lengths", value)
			goesOrNot(t, k, k.with([]api.Field{k2, right}, body), mayBe(k2))
		}
		k.refuses(t, k.with([]api.Field{right, right}, body), api.ErrField)
		k.refuses(t, k.with([]api.Field{right, field("a", "b"), right}, body), api.ErrField)
		k.refuses(t, k.with([]api.Field{right, right, right}, body), api.ErrField)
		k.refuses(t, k.with([]api.Field{field("Content-Length", strconv.Itoa(size))}, body), api.ErrField)
		k.goes(t, k.with(nil, body))
	}
	k.goes(t, k.with([]api.Field{field("content-length", "0")}, nil))
	k.goes(t, k.with([]api.Field{field("content-length", "0")}, []byte{}))
	k.refuses(t, k.with([]api.Field{field("content-length", "2049")}, make([]byte, 2049)), api.ErrMany)
}

// What is too much is asked first.
func TestWhichErrorOfARequest(t *testing.T) {
	k := requests()
	testWhichError(t, k)
	for _, fields := range [][]api.Field{nil, many(61)} {
		for _, size := range []int{0, 2049} {
			want := api.ErrField
			if fields != nil || size > 0 {
				want = api.ErrMany
			}
			body := make([]byte, size)
			k.refuses(t, api.Request{Fields: fields, Body: body}, want)
			k.refuses(t, api.Request{Method: "?", Scheme: "https", Host: "a", Path: "/", Fields: fields, Body: body}, want)
			k.refuses(t, api.Request{Method: "GET", Scheme: "x", Host: "a", Path: "/", Fields: fields, Body: body}, want)
			k.refuses(t, api.Request{Method: "GET", Scheme: "https", Host: "A", Path: "/", Fields: fields, Body: body}, want)
			k.refuses(t, api.Request{Method: "GET", Scheme: "https", Host: "a", Path: "x", Fields: fields, Body: body}, want)
		}
	}
}

func TestWhichErrorOfAResponse(t *testing.T) {
	k := responses()
	testWhichError(t, k)
	for _, status := range []int{0, 199, 600} {
		k.refuses(t, api.Response{Status: status}, api.ErrField)
		k.refuses(t, api.Response{Status: status, Fields: many(64)}, api.ErrMany)
		k.refuses(t, api.Response{Status: status, Body: make([]byte, 2049)}, api.ErrMany)
	}
}

func testWhichError[M any](t *testing.T, k kind[M]) {
	for _, wrong := range []api.Field{{}, field("A", ""), field(":status", "200"), field("name", " "), field("content-length", "1"), sized(65, 0), sized(1, 513)} {
		k.refuses(t, k.with(append(many(k.most-1), wrong), nil), api.ErrField)
		k.refuses(t, k.with(append(many(k.most), wrong), nil), api.ErrMany)
		k.refuses(t, k.with(append([]api.Field{wrong}, many(k.most)...), nil), api.ErrMany)
		k.refuses(t, k.with([]api.Field{wrong}, make([]byte, 2048)), api.ErrField)
		k.refuses(t, k.with([]api.Field{wrong}, make([]byte, 2049)), api.ErrMany)
		k.refuses(t, k.with(append(many(k.most), wrong), make([]byte, 2049)), api.ErrMany)
	}
	twice := []api.Field{field("content-length", "2049"), field("content-length", "2049")}
	k.refuses(t, k.with(twice, make([]byte, 2049)), api.ErrMany)
	k.refuses(t, k.with(twice, make([]byte, 2048)), api.ErrField)
}

// Which messages are the same.

// sames holds same against the plain way, both ways round.
func sames[M any](t *testing.T, k kind[M], a, b M, want bool) {
	t.Helper()
	if k.sameParts(a, b) != want || k.same(a, b) != want || k.same(b, a) != want || !k.same(a, a) || !k.same(b, b) {
		t.Fatalf("same of %v and %v is %v, %v", a, b, k.same(a, b), k.same(b, a))
	}
}

func TestSameRequests(t *testing.T) {
	k := requests()
	testSame(t, k)
	base := api.Request{Method: "GET", Scheme: "https", Host: "a", Path: "/", Fields: many(2), Body: []byte("body")}
	sames(t, k, base, api.Request{Method: "GET", Scheme: "https", Host: "a", Path: "/", Fields: many(2), Body: []byte("body")}, true)
	sames(t, k, base, api.Request{}, false)
	sames(t, k, api.Request{}, api.Request{}, true)
	for n := range 4 {
		for _, text := range []string{"", "x", "GET", "https", "a", "/", "GET ", "get", "A", "/a", "\xFF"} {
			one := base
			part := []*string{&one.Method, &one.Scheme, &one.Host, &one.Path}[n]
			same := *part == text
			*part = text
			sames(t, k, one, base, same)
		}
	}
	// Parts that are told in others' places.
	sames(t, k, api.Request{Method: "a"}, api.Request{Host: "a"}, false)
	sames(t, k, api.Request{Scheme: "a", Host: "b"}, api.Request{Scheme: "ab"}, false)
	sames(t, k, api.Request{Host: "a", Path: "/b"}, api.Request{Host: "a/b"}, false)
}

func TestSameResponses(t *testing.T) {
	k := responses()
	testSame(t, k)
	base := api.Response{Status: 200, Fields: many(2), Body: []byte("body")}
	sames(t, k, base, api.Response{Status: 200, Fields: many(2), Body: []byte("body")}, true)
	sames(t, k, api.Response{}, api.Response{}, true)
	for _, status := range []int{0, 1, -1, -200, 199, 201, 599, 600, 200 + 1<<8, 200 + 1<<16, 200 + 1<<32, math.MinInt, math.MaxInt} {
		one := base
		one.Status = status
		sames(t, k, one, base, false)
		sames(t, k, one, one, true)
	}
}

func testSame[M any](t *testing.T, k kind[M]) {
	l := []api.Field{field("a", "1"), field("b", "2"), field("c", "3"), field("a", "1")}
	base := k.with(l, []byte("body"))
	sames(t, k, base, k.with(slices.Clone(l), []byte("body")), true)
	sames(t, k, k.with(nil, nil), k.with([]api.Field{}, []byte{}), true)
	sames(t, k, k.with(l, nil), k.with(l, []byte{}), true)
	sames(t, k, k.with(nil, []byte("body")), k.with([]api.Field{}, []byte("body")), true)
	for _, body := range []string{"", "b", "bod", "bodyy", "Body", "bodx", "xody", "body\x00", " body"} {
		sames(t, k, base, k.with(l, []byte(body)), false)
	}
	for n := range l {
		for _, f := range []api.Field{{}, field(l[n].Name, "x"), field("x", l[n].Value), field(l[n].Value, l[n].Name), field(l[n].Name+l[n].Value, ""), field(strings.ToUpper(l[n].Name), l[n].Value)} {
			other := slices.Clone(l)
			other[n] = f
			sames(t, k, base, k.with(other, []byte("body")), false)
		}
		sames(t, k, base, k.with(slices.Delete(slices.Clone(l), n, n+1), []byte("body")), false)
		sames(t, k, base, k.with(slices.Insert(slices.Clone(l), n, field("d", "4")), []byte("body")), false)
		for m := range n {
			other := slices.Clone(l)
			other[n], other[m] = other[m], other[n]
			sames(t, k, base, k.with(other, []byte("body")), l[n] == l[m])
		}
	}
	sames(t, k, base, k.with(nil, []byte("body")), false)
	sames(t, k, base, k.with(append(slices.Clone(l), api.Field{}), []byte("body")), false)
	sames(t, k, k.with(nil, nil), k.with([]api.Field{{}}, nil), false)
	// What may not be is the same as itself, too.
	foul := k.with([]api.Field{field("A", "\n"), field(":path", "")}, make([]byte, 3000))
	sames(t, k, foul, k.with([]api.Field{field("A", "\n"), field(":path", "")}, make([]byte, 3000)), true)
	sames(t, k, foul, k.with([]api.Field{field("A", "\n"), field(":path", "")}, make([]byte, 3001)), false)
}
