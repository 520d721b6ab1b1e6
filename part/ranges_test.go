package part

import (
	"strconv"
	"strings"
	"testing"

	"turnbuckle/api"
)

func TestRanges(t *testing.T) { // P18.1, P18.3
	for _, k := range []struct {
		text     string
		from, to int
	}{
		{"bytes=0-0", 0, 0}, {"bytes=0-1", 0, 1}, {"bytes=0-8", 0, 8}, {"bytes=0-9", 0, 9}, {"bytes=0-10", 0, 9}, {"bytes=0-999999999999999999", 0, 9}, {"bytes=0-", 0, 9},
		{"bytes=1-1", 1, 1}, {"bytes=4-6", 4, 6}, {"bytes=8-9", 8, 9}, {"bytes=9-9", 9, 9}, {"bytes=9-10", 9, 9}, {"bytes=9-", 9, 9}, {"bytes=1-", 1, 9},
		{"bytes=-1", 9, 9}, {"bytes=-2", 8, 9}, {"bytes=-9", 1, 9}, {"bytes=-10", 0, 9}, {"bytes=-11", 0, 9},
		{"BYTES=0-1", 0, 1}, {"bytes= 0-1\t", 0, 1}, {"bytes=00-01", 0, 1},
		// of several parts only one is of the body
		{"bytes=0-1,10-", 0, 1}, {"bytes=10-,0-1", 0, 1}, {"bytes=-0, 3-4, 20-30", 3, 4},
	} {
		isPart(t, page(), k.from, k.to, "range", k.text)
	}
	for _, text := range []string{"bytes=10-", "bytes=10-10", "bytes=11-20", "bytes=-0", "bytes=10-,-0", "bytes=999999999999999999-", "Bytes= 10- "} {
		isNoPart(t, page(), "range", text)
	}
	for _, text := range []string{
		// several spans, also if they are the same
		"bytes=0-1,3-4", "bytes=0-1,-1", "bytes=0-1,0-1", "bytes=0-1,2-3", "bytes=0-,10-,1-", "bytes=" + strings.Repeat("0-0,", 15) + "1-1",
		// none
		"", "bytes", "bytes=", "byte=0-1", "items=0-1", "0-1", "bytes=1-0", "bytes=-", "bytes=a-b", "bytes=0-1,", "bytes=0", "bytes 0-1", "bytes=0-1;2-3", "*", "bytes=*", "bytes=0-1000000000000000000", "bytes=10-9", "bytes=--1",
		// too many
		"bytes=" + strings.Repeat("0-0,", 16) + "0-0", "bytes=" + strings.Repeat("10-,", 16) + "0-0", "bytes=" + strings.Repeat("-0,", 16) + "-0",
	} {
		isItself(t, page(), "range", text)
		isNotModified(t, page(), "range", text, "if-none-match", `"a"`)
	}
}

func TestCountOfRangeFields(t *testing.T) { // P18.1
	isItself(t, page())
	isPart(t, page(), 0, 1, "range", "bytes=0-1")
	for _, other := range []string{"bytes=0-1", "bytes=2-3", "bytes=10-", "", "x"} {
		isItself(t, page(), "range", "bytes=0-1", "range", other)
		isItself(t, page(), "range", other, "range", "bytes=0-1")
		isItself(t, page(), "range", "bytes=10-", "range", other)
		isItself(t, page(), "range", "bytes=0-1", "range", other, "range", "bytes=0-1")
		isItself(t, page(), "range", "bytes=0-1", "range", other, "if-range", `"a"`)
	}
	isPart(t, page(), 0, 1, "Range", "bytes=2-3", "range", "bytes=0-1", "RANGE", "x")
}

func TestRangesOfBodies(t *testing.T) { // P18.1, P18.3
	for _, text := range []string{"bytes=0-0", "bytes=0-", "bytes=-1", "bytes=-0", "bytes=-999999999999999999", "bytes=1-", "bytes=0-0,-1"} {
		isNoPart(t, whole(""), "range", text)
		isNoPart(t, whole("", "etag", `"a"`, "content-length", "0", "x", "y"), "range", text)
		comes(t, request("GET", "range", text), api.Response{Status: 200}, api.Response{Status: 416, Fields: named("content-range", "bytes */0")})
	}
	for _, text := range []string{"bytes=0-0", "bytes=0-", "bytes=-1", "bytes=0-1", "bytes=-2"} {
		isPart(t, whole("x"), 0, 0, "range", text)
	}
	isNoPart(t, whole("x"), "range", "bytes=1-")
	odd := "\x00\xff\"\n,\x80é\x00"
	for from := range len(odd) {
		for to := from; to < len(odd); to++ {
			isPart(t, whole(odd, "x", "y"), from, to, "range", "bytes="+strconv.Itoa(from)+"-"+strconv.Itoa(to))
		}
	}
	for _, size := range []int{2048, 2049, 1 << 16, 1 << 20} {
		body := strings.Repeat("0123456789abcdef", size/16+1)[:size]
		last := strconv.Itoa(size - 1)
		isPart(t, whole(body), 0, size-1, "range", "bytes=0-"+last)
		isPart(t, whole(body), size-1, size-1, "range", "bytes="+last+"-"+last)
		isPart(t, whole(body), 100, 1999, "range", "bytes=100-1999")
		isPart(t, whole(body), size-17, size-1, "range", "bytes=-17")
		isNoPart(t, whole(body), "range", "bytes="+strconv.Itoa(size)+"-")
	}
}

func TestIfRange(t *testing.T) { // P18.1
	holds := func(s api.Response, text string) {
		t.Helper()
		isPart(t, s, 2, 4, "range", "bytes=2-4", "if-range", text)
		isPart(t, s, 2, 4, "if-range", text, "range", "bytes=2-4")
		isNoPart(t, s, "range", "bytes=10-", "if-range", text)
		isItself(t, s, "range", "bytes=0-1,3-4", "if-range", text)
		// one more of them, and neither counts
		isItself(t, s, "range", "bytes=2-4", "if-range", text, "if-range", text)
		isItself(t, s, "range", "bytes=10-", "if-range", text, "if-range", text)
		isItself(t, s, "range", "bytes=2-4", "if-range", text, "if-range", "x")
		isItself(t, s, "range", "bytes=2-4", "if-range", "", "if-range", text)
	}
	fails := func(s api.Response, text string) {
		t.Helper()
		isItself(t, s, "range", "bytes=2-4", "if-range", text)
		isItself(t, s, "range", "bytes=10-", "if-range", text)
	}
	holds(page(), `"a"`)
	holds(page(), same)
	weak := whole("0123456789", "etag", `W/"a"`)
	for _, text := range []string{`W/"a"`, `"b"`, `W/"b"`, `"A"`, `""`, "", "a", `"a`, `a"`, "*", ` "a"`, `"a" `, `"a", "b"`, `"b", "a"`, `"a",`, `,"a"`, `"a","a"`, "x", earlier, later, firstOfAll, lastOfAll} {
		fails(page(), text)
		fails(weak, text)
	}
	fails(weak, `"a"`)
	fails(weak, same)
	for _, text := range noDates {
		if text != `"a"` {
			fails(page(), text)
		}
		fails(at(text), text+"x")
		fails(at(text), same)
		fails(at(text, same), same)
		holds(at(same, text), same)
	}
	fails(at(), same)
	fails(at(), on1970)
	fails(at("x"), on1970)
	holds(at(on1970), on1970)
	fails(at(on1970), before1970)
	holds(at(before1970), before1970)
	holds(at(), `"a"`)
	// tags with bytes that mean something in a list
	for _, tag := range []string{`","`, `"a,b"`, `"*"`, `"\"`, `"a\"`, `"W/"`, `""`, `"` + strings.Repeat("a", 510) + `"`} {
		holds(whole("0123456789", "etag", tag), tag)
		fails(whole("0123456789", "etag", tag), "*")
		fails(whole("0123456789", "etag", "W/"+tag), tag)
		fails(whole("0123456789", "etag", tag), "W/"+tag)
	}
	long := `"` + strings.Repeat("a", 511) + `"`
	fails(whole("0123456789", "etag", long), long)
	// without a range it is nothing
	isItself(t, page(), "if-range", `"a"`)
	isItself(t, page(), "if-range", `"b"`)
	// names in other letters
	isPart(t, page(), 2, 4, "range", "bytes=2-4", "If-Range", `"b"`)
}

// full is a response with all kinds of fields, some of them several times, and in other letters.
func full() api.Response {
	return whole("\x00bcd\xff",
		"content-range", "bytes 7-8/9", "vary", "a", "Vary", "b", "content-type", "x", "last-modified", same, "cache-control", "max-age=1", "content-length", "5", "set-cookie", "1",
		"etag", `"a"`, "age", "3", "vary", "c", "ETag", `"b"`, "connection", "close", "expires", "0", "content-location", "/l", "content-encoding", "gzip", "date", later, "set-cookie", "2",
		"cache-control", "public", "Content-Length", "6", "content-length", "5", "location", "/", "etag", `"c"`, "last-modified", "x", "transfer-encoding", "chunked", "content-range", "", "dates", "no", "", "v", "warning", "w", "Content-Range", "r")
}

func TestWhatComes(t *testing.T) { // P18.1
	for _, method := range []string{"GET", "HEAD"} {
		comes(t, request(method, "if-match", "x"), full(), api.Response{Status: 412})
		comes(t, request(method, "if-unmodified-since", earlier), full(), api.Response{Status: 412})
		notModified := api.Response{Status: 304, Fields: named("vary", "a", "last-modified", same, "cache-control", "max-age=1", "etag", `"a"`, "age", "3", "vary", "c", "expires", "0", "content-location", "/l", "date", later,
			"cache-control", "public", "etag", `"c"`, "last-modified", "x")}
		comes(t, request(method, "if-none-match", `W/"a"`), full(), notModified)
		comes(t, request(method, "if-modified-since", later), full(), notModified)
		comes(t, request(method, "if-none-match", "*"), whole("a", "x", "y", "Date", later), api.Response{Status: 304})
		comes(t, request(method, "if-none-match", "*"), whole("a"), api.Response{Status: 304})
	}
	rest := named("vary", "a", "Vary", "b", "content-type", "x", "last-modified", same, "cache-control", "max-age=1", "set-cookie", "1",
		"etag", `"a"`, "age", "3", "vary", "c", "ETag", `"b"`, "connection", "close", "expires", "0", "content-location", "/l", "content-encoding", "gzip", "date", later, "set-cookie", "2",
		"cache-control", "public", "Content-Length", "6", "location", "/", "etag", `"c"`, "last-modified", "x", "transfer-encoding", "chunked", "dates", "no", "", "v", "warning", "w", "Content-Range", "r")
	for _, k := range []struct{ text, told, length, body string }{
		{"bytes=0-0", "bytes 0-0/5", "1", "\x00"},
		{"bytes=-1", "bytes 4-4/5", "1", "\xff"},
		{"bytes=0-", "bytes 0-4/5", "5", "\x00bcd\xff"},
		{"bytes=1-3", "bytes 1-3/5", "3", "bcd"},
	} {
		want := api.Response{Status: 206, Fields: append(rest[:len(rest):len(rest)], header("content-range", k.told), header("content-length", k.length)), Body: []byte(k.body)}
		comes(t, request("GET", "range", k.text), full(), want)
		comes(t, request("HEAD", "range", k.text), full(), bodiless(full()))
	}
	comes(t, request("GET", "range", "bytes=5-"), full(), api.Response{Status: 416, Fields: named("content-range", "bytes */5")})
	comes(t, request("GET"), full(), full())
	comes(t, request("HEAD"), full(), bodiless(full()))
}
