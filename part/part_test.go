package part

import (
	"math"
	"math/big"
	"strconv"
	"strings"
	"testing"

	"turnbuckle/api"
)

func TestExample(t *testing.T) { // the chapter's example
	got, e := Of(request("GET", "range", "bytes=0-1"), whole("0123456789"))
	want := api.Response{Status: 206, Fields: named("content-range", "bytes 0-1/10", "content-length", "2"), Body: []byte("01")}
	if e != api.OK || !isSame(got, want) {
		t.Errorf("%v, %s; want %s", e, tell(got), tell(want))
	}
}

func TestNumber(t *testing.T) { // P18.1
	for _, k := range []struct {
		n    int
		want string
	}{
		{0, "0"}, {1, "1"}, {5, "5"}, {9, "9"}, {10, "10"}, {11, "11"}, {99, "99"}, {100, "100"}, {101, "101"}, {1000, "1000"}, {2048, "2048"}, {4096, "4096"}, {1234567890, "1234567890"},
		{-1, "-1"}, {-9, "-9"}, {-10, "-10"}, {-100, "-100"}, {-2048, "-2048"}, {-1234567890, "-1234567890"},
		{1 << 31, "2147483648"}, {-1 << 31, "-2147483648"}, {1<<32 - 1, "4294967295"}, {1 << 40, "1099511627776"}, {1000000000000000000, "1000000000000000000"},
		{math.MaxInt, "9223372036854775807"}, {math.MaxInt - 1, "9223372036854775806"}, {math.MinInt, "-9223372036854775808"}, {math.MinInt + 1, "-9223372036854775807"},
	} {
		if got := Number(k.n); got != k.want {
			t.Errorf("Number(%d) = %q, want %q", k.n, got, k.want)
		}
	}
}

func TestNumberOfMany(t *testing.T) { // P18.1
	ask := func(n int) {
		if got := Number(n); got != big.NewInt(int64(n)).String() {
			t.Fatalf("Number(%d) = %q", n, got)
		}
	}
	for n := -20000; n <= 20000; n++ {
		ask(n)
	}
	for n := 1; n > 0 && n < math.MaxInt/10; n *= 10 {
		for d := -1; d <= 1; d++ {
			ask(n + d)
			ask(-n + d)
			ask(9*n + d)
			ask(-9*n + d)
		}
	}
	for bit := range 64 {
		ask(1<<bit - 1)
		ask(1 << bit)
		ask(-1 << bit)
	}
}

func TestOtherMethods(t *testing.T) { // P18.1
	for _, method := range []string{"", "get", "Get", "gET", "GEt", "head", "Head", "HEAd", "GET ", " GET", "GET\x00", "GETS", "GE", "HEADS", "HEA", "GETHEAD", "GET,HEAD", "POST", "PUT", "DELETE", "OPTIONS", "TRACE", "PATCH", "CONNECT", "*", "\u0262ET", strings.Repeat("GET", 100)} {
		for _, status := range []int{200, 0, 206, 304, 404, 500, -1} {
			for _, c := range append(cases(), asked{"nothing", nil, isItself}) {
				s := page()
				s.Status = status
				if got, e := Of(request(method, c.texts...), s); e != api.ErrArg || !isSame(got, api.Response{}) {
					t.Errorf("%q, %s, of status %d: %s, %v", method, c.name, status, tell(got), e)
				}
			}
		}
	}
}

func TestOtherStatus(t *testing.T) { // P18.1
	statuses := []int{0, 1, -1, -200, 99, 100, 199, 201, 202, 203, 204, 205, 206, 299, 300, 301, 302, 304, 400, 404, 412, 416, 500, 502, 504, 599, 600, 999, 2000, 200 + 1<<32, 1 << 40, math.MaxInt, math.MinInt}
	for _, status := range statuses {
		for _, body := range []string{"", "0", "0123456789"} {
			s := page()
			s.Status, s.Body = status, []byte(body)
			isItself(t, s)
			for _, c := range cases() {
				isItself(t, s, c.texts...)
			}
			isItself(t, api.Response{Status: status, Body: []byte(body)}, "if-match", "*")
		}
	}
	isItself(t, api.Response{})
}

// TestWithoutConditions asks with fields that are none, or are written otherwise.
func TestWithoutConditions(t *testing.T) { // P18.1, P18.4
	for _, body := range []string{"", "0", "\x00\xff", "0123456789", strings.Repeat("a", 2048), strings.Repeat("b", 100000)} {
		s := page()
		s.Body = []byte(body)
		isItself(t, s)
		isItself(t, whole(body))
		isItself(t, s, "accept", "*/*", "cache-control", "no-cache, max-age=0", "etag", `"b"`, "last-modified", earlier, "content-range", "bytes 0-1/10")
		isItself(t, s, "If-Match", `"b"`, "If-Unmodified-Since", earlier, "If-None-Match", `"a"`, "If-Modified-Since", later, "Range", "bytes=0-1")
		isItself(t, s, "IF-MATCH", `"b"`, "if-match ", `"b"`, " if-none-match", "*", "if_none_match", "*", "ranges", "bytes=0-1", "range:", "bytes=0-1", "", "bytes=0-1")
		isItself(t, s, "if-range", `"a"`)
		isItself(t, s, "if-range", "*", "if-range", same)
	}
	rich := whole("ab", "set-cookie", "a=1", "etag", "none", "set-cookie", "b=2", "content-range", "bytes 0-1/2", "content-length", "2", "Content-Length", "2", "", "", "etag", `"a"`, "connection", "x", "age", "-1")
	isItself(t, rich)
	isItself(t, whole("ab", "x", strings.Repeat("v", 10000)))
}

// TestManyFields asks with more fields than a message has room for.
func TestManyFields(t *testing.T) { // P18.1, P18.2
	s := page()
	q := request("GET", "if-none-match", `"a"`)
	for i := range 20000 {
		f := header("x-"+strconv.Itoa(i), "v")
		s.Fields, q.Fields = append(s.Fields, f), append(q.Fields, f)
	}
	comes(t, q, s, plainNotModified(s))
	q.Fields[0] = header("range", "bytes=3-")
	comes(t, q, s, plainPart(s, 3, 9))
	fresh := api.Response{Status: 304, Fields: s.Fields[len(s.Fields)/2:]}
	want := api.Response{Status: 200, Fields: s.Fields, Body: s.Body}
	if got := Newer(s, fresh); !isSame(got, want) {
		t.Errorf("of many fields came %d, want %d", len(got.Fields), len(want.Fields))
	}
}
