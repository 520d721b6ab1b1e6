package part

import (
	"bytes"
	"fmt"
	"regexp"
	"slices"
	"strconv"
	"strings"
	"testing"
	"time"

	"turnbuckle/api"
)

// Three times, one second behind the other.
const (
	earlier = "Sun, 06 Nov 1994 08:49:36 GMT"
	same    = "Sun, 06 Nov 1994 08:49:37 GMT"
	later   = "Sun, 06 Nov 1994 08:49:38 GMT"
)

// outcome asks with fields, from names and values that take turns, whether just this comes.
type outcome func(t *testing.T, s api.Response, texts ...string)

// noDates are texts that are none.
var noDates = []string{"", "0", "784111777", "Mon, 06 Nov 1994 08:49:37 GMT", "Sunday, 06-Nov-94 08:49:37 GMT", "Sun Nov  6 08:49:37 1994", same + " ", " " + same, same + ", " + same, `"` + same + `"`, "*", `"a"`}

func header(name, value string) api.Field {
	return api.Field{Name: name, Value: value}
}

// named are fields, from names and values that take turns.
func named(texts ...string) []api.Field {
	var l []api.Field
	for i := 0; i < len(texts); i += 2 {
		l = append(l, header(texts[i], texts[i+1]))
	}
	return l
}

// request is one with fields, from names and values that take turns.
func request(method string, texts ...string) api.Request {
	return api.Request{Method: method, Scheme: "https", Host: "a", Path: "/", Fields: named(texts...)}
}

// whole is a whole response with fields, from names and values that take turns.
func whole(body string, texts ...string) api.Response {
	return api.Response{Status: 200, Fields: named(texts...), Body: []byte(body)}
}

// page is a whole response of ten bytes, with a tag and a time.
func page() api.Response {
	return whole("0123456789", "content-type", "text/plain", "etag", `"a"`, "content-length", "10", "last-modified", same, "x", "1")
}

// bodiless is a response without its body.
func bodiless(s api.Response) api.Response {
	s.Body = nil
	return s
}

func isSame(a, b api.Response) bool {
	return a.Status == b.Status && slices.Equal(a.Fields, b.Fields) && bytes.Equal(a.Body, b.Body)
}

func tell(s api.Response) string {
	return fmt.Sprintf("{%d %q %q}", s.Status, s.Fields, s.Body)
}

func comes(t *testing.T, q api.Request, s, want api.Response) {
	t.Helper()
	if got, e := Of(q, s); e != api.OK || !isSame(got, want) {
		t.Errorf("%s %q of %s: %v, %s; want %s", q.Method, q.Fields, tell(s), e, tell(got), tell(want))
	}
}

// Each of the following asks with the same fields as a GET and as a HEAD, to which a range means nothing.

func isItself(t *testing.T, s api.Response, texts ...string) {
	t.Helper()
	comes(t, request("GET", texts...), s, s)
	comes(t, request("HEAD", texts...), s, bodiless(s))
}

func isFailed(t *testing.T, s api.Response, texts ...string) {
	t.Helper()
	comes(t, request("GET", texts...), s, api.Response{Status: 412})
	comes(t, request("HEAD", texts...), s, api.Response{Status: 412})
}

func isNotModified(t *testing.T, s api.Response, texts ...string) {
	t.Helper()
	comes(t, request("GET", texts...), s, plainNotModified(s))
	comes(t, request("HEAD", texts...), s, plainNotModified(s))
}

func isPart(t *testing.T, s api.Response, from, to int, texts ...string) {
	t.Helper()
	comes(t, request("GET", texts...), s, plainPart(s, from, to))
	comes(t, request("HEAD", texts...), s, bodiless(s))
}

func isNoPart(t *testing.T, s api.Response, texts ...string) {
	t.Helper()
	comes(t, request("GET", texts...), s, plainNoPart(s))
	comes(t, request("HEAD", texts...), s, bodiless(s))
}

func plainNotModified(s api.Response) api.Response {
	told := strings.Fields("cache-control content-location date etag expires vary age last-modified")
	var l []api.Field
	for _, f := range s.Fields {
		if slices.Contains(told, f.Name) {
			l = append(l, f)
		}
	}
	return api.Response{Status: 304, Fields: l}
}

func plainPart(s api.Response, from, to int) api.Response {
	l := slices.DeleteFunc(slices.Clone(s.Fields), func(f api.Field) bool {
		return f.Name == "content-length" || f.Name == "content-range"
	})
	l = append(l, header("content-range", fmt.Sprintf("bytes %d-%d/%d", from, to, len(s.Body))), header("content-length", fmt.Sprint(to-from+1)))
	return api.Response{Status: 206, Fields: l, Body: s.Body[from : to+1]}
}

func plainNoPart(s api.Response) api.Response {
	return api.Response{Status: 416, Fields: named("content-range", fmt.Sprintf("bytes */%d", len(s.Body)))}
}

var (
	plainElement = regexp.MustCompile(`(?:[^",]|"(?:[^"\\]|\\.)*(?:"|\\?\z))+`)
	plainTag     = regexp.MustCompile(`\A(W/)?("[\x21\x23-\x7E]*")\z`)
	plainRange   = regexp.MustCompile(`\A(?i:bytes)=[ \t]*(?:([0-9]+)-([0-9]*)|-([0-9]+))[ \t]*\z`)
)

func plainAll(l []api.Field, name string) []string {
	var values []string
	for _, f := range l {
		if f.Name == name {
			values = append(values, f.Value)
		}
	}
	return values
}

// plainDate reads a date, and -1 of what is none. (The dates here lie behind 1970.)
func plainDate(values []string) int64 {
	const layout = "Mon, 02 Jan 2006 15:04:05 GMT"
	if len(values) > 0 {
		if d, err := time.Parse(layout, values[0]); err == nil && d.Format(layout) == values[0] {
			return d.Unix()
		}
	}
	return -1
}

// plainMatch tells whether an element is *, or the first tag, which may be none.
func plainMatch(values, tags []string, weak bool) bool {
	var own []string
	if len(tags) > 0 {
		own = plainTag.FindStringSubmatch(tags[0])
	}
	for _, value := range values {
		for _, element := range plainElement.FindAllString(value, -1) {
			element = strings.Trim(element, " \t")
			m := plainTag.FindStringSubmatch(element)
			if element == "*" || own != nil && m != nil && m[2] == own[2] && (weak || m[1]+own[1] == "") {
				return true
			}
		}
	}
	return false
}

// plainSpan is the span of a range that is alone, and whether it is a range of so many bytes, and whether it is one at all.
func plainSpan(text string, length int) (from, to int, some, right bool) {
	m := plainRange.FindStringSubmatch(text)
	if m == nil {
		return 0, 0, false, false
	}
	from, _ = strconv.Atoi(m[1])
	to, _ = strconv.Atoi(m[2])
	last, _ := strconv.Atoi(m[3])
	if m[2] != "" && from > to {
		return 0, 0, false, false
	}
	switch {
	case m[3] != "":
		from, to = max(0, length-last), length-1
	case m[2] == "" || to >= length:
		to = length - 1
	}
	return from, to, from <= to, true
}

// plainOf asks one question behind the other. Of ranges it knows those of one part.
func plainOf(q api.Request, s api.Response) (api.Response, api.Errno) {
	if !slices.Contains([]string{"GET", "HEAD"}, q.Method) {
		return api.Response{}, api.ErrArg
	}
	came := plainGet(q, s)
	if q.Method == "HEAD" {
		came.Body = nil
	}
	return came, api.OK
}

func plainGet(q api.Request, s api.Response) api.Response {
	if s.Status != 200 {
		return s
	}
	etags, own := plainAll(s.Fields, "etag"), plainDate(plainAll(s.Fields, "last-modified"))
	if l := plainAll(q.Fields, "if-match"); l != nil {
		if !plainMatch(l, etags, false) {
			return api.Response{Status: 412}
		}
	} else if since := plainDate(plainAll(q.Fields, "if-unmodified-since")); since >= 0 && own > since {
		return api.Response{Status: 412}
	}
	if l := plainAll(q.Fields, "if-none-match"); l != nil {
		if plainMatch(l, etags, true) {
			return plainNotModified(s)
		}
	} else if since := plainDate(plainAll(q.Fields, "if-modified-since")); own >= 0 && own <= since {
		return plainNotModified(s)
	}
	asked, only := plainAll(q.Fields, "range"), plainAll(q.Fields, "if-range")
	if q.Method == "HEAD" || len(asked) != 1 || len(only) > 1 {
		return s
	}
	if len(only) == 1 {
		isTag := only[0] != "*" && plainTag.MatchString(only[0]) && plainMatch(only, etags, false)
		isTime := own >= 0 && plainDate(only) == own
		if !isTag && !isTime {
			return s
		}
	}
	from, to, some, right := plainSpan(asked[0], len(s.Body))
	switch {
	case !right:
		return s
	case !some:
		return plainNoPart(s)
	}
	return plainPart(s, from, to)
}

// plainNewer puts the fields of a fresh one in, name by name.
func plainNewer(old, fresh api.Response) api.Response {
	aside := strings.Fields("content-length content-range connection transfer-encoding")
	var l []api.Field
	for _, f := range old.Fields {
		if slices.Contains(aside, f.Name) || len(plainAll(fresh.Fields, f.Name)) == 0 {
			l = append(l, f)
		}
	}
	for _, f := range fresh.Fields {
		if !slices.Contains(aside, f.Name) {
			l = append(l, f)
		}
	}
	return api.Response{Status: old.Status, Fields: l, Body: old.Body}
}
