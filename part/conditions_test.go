package part

import (
	"slices"
	"strings"
	"testing"

	"turnbuckle/api"
)

// asked are fields with which one of the conditions holds of the page, and what comes of it.
type asked struct {
	name  string
	texts []string
	is    outcome
}

// cases are the conditions in the order in which they count.
func cases() []asked {
	return []asked{
		{"if-match", []string{"if-match", `"b"`}, isFailed},
		{"if-unmodified-since", []string{"if-unmodified-since", earlier}, isFailed},
		{"if-none-match", []string{"if-none-match", `"a"`}, isNotModified},
		{"if-modified-since", []string{"if-modified-since", same}, isNotModified},
		{"range", []string{"range", "bytes=2-4"}, func(t *testing.T, s api.Response, texts ...string) {
			t.Helper()
			isPart(t, s, 2, 4, texts...)
		}},
		{"range of no byte", []string{"range", "bytes=10-"}, isNoPart},
	}
}

// turned are names and values the other way round.
func turned(texts []string) []string {
	var l []string
	for i := len(texts) - 2; i >= 0; i -= 2 {
		l = append(l, texts[i], texts[i+1])
	}
	return l
}

func TestEachCaseAlone(t *testing.T) { // P18.1
	for _, c := range cases() {
		c.is(t, page(), c.texts...)
		around := slices.Concat([]string{"accept", "*"}, c.texts, []string{"x", "y"})
		c.is(t, page(), around...)
	}
}

func TestFirstCaseCounts(t *testing.T) { // P18.1
	l := cases()
	for i, c := range l {
		for _, d := range l[i+1:] {
			if c.texts[0] == d.texts[0] {
				continue // two ranges are none
			}
			both := slices.Concat(c.texts, d.texts)
			c.is(t, page(), both...)
			c.is(t, page(), turned(both)...)
			for _, g := range l[i+1:] {
				if g.texts[0] != c.texts[0] && g.texts[0] != d.texts[0] {
					three := slices.Concat(g.texts, c.texts, d.texts)
					c.is(t, page(), three...)
					c.is(t, page(), turned(three)...)
				}
			}
		}
	}
	isFailed(t, page(), "range", "bytes=0-1", "if-modified-since", later, "if-none-match", "*", "if-unmodified-since", earlier, "if-match", `"b"`)
}

// TestConditionsThatHoldNot asks with conditions of which none makes anything of the page.
func TestConditionsThatHoldNot(t *testing.T) { // P18.1
	all := []asked{
		{"if-match", []string{"if-match", `"a"`}, nil},
		{"if-unmodified-since", []string{"if-unmodified-since", same}, nil},
		{"if-none-match", []string{"if-none-match", `"b"`}, nil},
		{"if-modified-since", []string{"if-modified-since", earlier}, nil},
	}
	for set := range 1 << len(all) {
		var texts []string
		for i, c := range all {
			if set>>i&1 == 1 {
				texts = append(texts, c.texts...)
			}
		}
		isItself(t, page(), texts...)
		isItself(t, page(), turned(texts)...)
		// what stands behind them counts then
		isPart(t, page(), 0, 1, append(texts, "range", "bytes=0-1")...)
		isNoPart(t, page(), append(texts, "range", "bytes=-0")...)
		isItself(t, page(), append(texts, "range", "bytes=0-1,3-4")...)
	}
}

// TestOfHead asks the head for all that a GET has by a range.
func TestOfHead(t *testing.T) { // P18.1
	for _, text := range []string{"bytes=0-1", "bytes=10-", "bytes=-0", "bytes=0-1,2-3", "bytes", ""} {
		comes(t, request("HEAD", "range", text), page(), bodiless(page()))
		comes(t, request("HEAD", "range", text, "if-range", `"a"`), page(), bodiless(page()))
		comes(t, request("HEAD", "range", text, "if-none-match", `"a"`), page(), plainNotModified(page()))
		comes(t, request("HEAD", "range", text, "if-match", `"b"`), page(), api.Response{Status: 412})
	}
	empty := whole("", "content-length", "10", "etag", `"a"`)
	comes(t, request("HEAD"), empty, empty)
	comes(t, request("HEAD", "range", "bytes=0-1"), empty, empty)
	comes(t, request("GET", "range", "bytes=0-1"), empty, api.Response{Status: 416, Fields: named("content-range", "bytes */0")})
}

func TestIfMatch(t *testing.T) { // P18.1
	strong, weak := page(), whole("0123456789", "etag", `W/"a"`)
	for _, values := range [][]string{{`"a"`}, {`"b", "a"`}, {`"b"`, `"a"`}, {`"a"`, `"b"`}, {"", ` "b" ,,"a"`}, {`W/"a", "a"`}, {`W/"a"`, `"a"`}} {
		isItself(t, strong, pairs("if-match", values)...)
		isFailed(t, weak, pairs("if-match", values)...)
	}
	for _, values := range [][]string{{`W/"a"`}, {`"b"`}, {`"b", "c"`}, {`"b"`, `"c"`}, {`"A"`}, {`"aa"`}, {`""`}, {""}, {","}, {"", ""}, {"a"}, {`"a`}, {`a"`}, {`w/"a"`}, {`"*"`}, {"**"}, {"W/*"}, {`"b, "a"`}, {`"a" "a"`}, {`W/"b", W/"a"`}, {`"b"`, `W/"a"`}} {
		isFailed(t, strong, pairs("if-match", values)...)
		isFailed(t, weak, pairs("if-match", values)...)
	}
	for _, values := range [][]string{{"*"}, {" *\t"}, {`"b", *`}, {`*, "b"`}, {`"b"`, "*"}, {"*", `"b"`}, {"", "x", "*"}} {
		isItself(t, strong, pairs("if-match", values)...)
		isItself(t, weak, pairs("if-match", values)...)
	}
}

// tagless are whole responses without a tag.
func tagless() []api.Response {
	l := []api.Response{
		whole("0123456789", "last-modified", same),
		whole("0123456789", "last-modified", same, "ETag", `"a"`, "etags", `"a"`, "e-tag", `"a"`),
	}
	for _, text := range []string{"", "a", "*", `"`, `"a`, `a"`, `w/"a"`, `"a" `, ` "a"`, `"a", "b"`, "W/", `W/ "a"`, "\"a\x80\"", `"a b"`, `"` + strings.Repeat("a", 511) + `"`, same} {
		l = append(l, whole("0123456789", "etag", text, "last-modified", same))
		// the first one counts, also if it is none
		l = append(l, whole("0123456789", "etag", text, "last-modified", same, "etag", `"a"`))
	}
	return l
}

func TestTagless(t *testing.T) { // P18.1
	for _, s := range tagless() {
		own := first(s.Fields, "etag")
		for _, values := range [][]string{{`"a"`}, {`W/"a"`}, {""}, {`""`}, {own + "x"}, {`"*"`}, {"**"}, {"W/*"}, {`"a", "b"`, `"c"`}, {"x", `"*`}, {`"x,*,y"`}} {
			isFailed(t, s, pairs("if-match", values)...)
			isItself(t, s, pairs("if-none-match", values)...)
		}
		for _, values := range [][]string{{"*"}, {" * "}, {`"a", *`}, {`*,"a"`}, {`"a"`, "*"}, {"*", `"a"`}, {"", "x", "*"}} {
			isItself(t, s, pairs("if-match", values)...)
			isNotModified(t, s, pairs("if-none-match", values)...)
		}
		if own != "*" {
			isFailed(t, s, "if-match", own)
			isItself(t, s, "if-none-match", own)
		}
		for _, text := range []string{own, `"a"`, `W/"a"`, "*", `""`, ""} {
			if text != same {
				isItself(t, s, "range", "bytes=0-1", "if-range", text)
			}
		}
		isPart(t, s, 0, 1, "range", "bytes=0-1", "if-range", same)
	}
}

// TestFirstTagCounts has two tags.
func TestFirstTagCounts(t *testing.T) { // P18.1
	s := whole("0123456789", "x", `"c"`, "etag", `"a"`, "etag", `"b"`)
	isItself(t, s, "if-match", `"a"`)
	isFailed(t, s, "if-match", `"b"`)
	isNotModified(t, s, "if-none-match", `"a"`)
	isItself(t, s, "if-none-match", `"b"`)
	isItself(t, s, "range", "bytes=0-1", "if-range", `"b"`)
	isPart(t, s, 0, 1, "range", "bytes=0-1", "if-range", `"a"`)
}

func TestIfNoneMatch(t *testing.T) { // P18.1
	strong, weak := page(), whole("0123456789", "etag", `W/"a"`)
	for _, s := range []api.Response{strong, weak} {
		for _, values := range [][]string{{`"a"`}, {`W/"a"`}, {`"b", "a"`}, {`"b"`, `W/"a"`}, {`"a"`, `"b"`}, {"", `"b" ,,W/"a"`}, {"*"}, {` *`}, {`"b", *`}, {`*, "b"`}, {"*", `"b"`}, {`"b"`, "*"}} {
			isNotModified(t, s, pairs("if-none-match", values)...)
		}
		for _, values := range [][]string{{`"b"`}, {`W/"b"`}, {`"b", "c"`}, {`"b"`, `W/"c"`}, {`"A"`}, {`"aa"`}, {`""`}, {""}, {","}, {"", ""}, {"a"}, {`"a`}, {`w/"a"`}, {`"*"`}, {"**"}, {"W/*"}, {`"b,"a"`}, {`"x,*"`}} {
			isItself(t, s, pairs("if-none-match", values)...)
			// it is there, so the other one is not asked
			isItself(t, page(), append(pairs("if-none-match", values), "if-modified-since", later)...)
			isItself(t, page(), append([]string{"if-modified-since", same}, pairs("if-none-match", values)...)...)
		}
	}
}

// pairs are the values of a name, each behind it.
func pairs(name string, values []string) []string {
	var texts []string
	for _, value := range values {
		texts = append(texts, name, value)
	}
	return texts
}

// at is a whole response of a time.
func at(texts ...string) api.Response {
	return whole("0123456789", append([]string{"etag", `"a"`}, pairs("last-modified", texts)...)...)
}

const (
	firstOfAll = "Sat, 01 Jan 0000 00:00:00 GMT"
	lastOfAll  = "Fri, 31 Dec 9999 23:59:59 GMT"
	before1970 = "Wed, 31 Dec 1969 23:59:59 GMT"
	on1970     = "Thu, 01 Jan 1970 00:00:00 GMT"
)

func TestIfUnmodifiedSince(t *testing.T) { // P18.1
	fails := func(s api.Response, values ...string) {
		t.Helper()
		texts := pairs("if-unmodified-since", values)
		isFailed(t, s, texts...)
		// with if-match it does not count
		isItself(t, s, append([]string{"if-match", `"a"`}, texts...)...)
		isItself(t, s, append(texts, "if-match", "*")...)
		isFailed(t, s, append(texts, "if-match", "")...)
	}
	holds := func(s api.Response, values ...string) {
		t.Helper()
		texts := pairs("if-unmodified-since", values)
		isItself(t, s, texts...)
		isItself(t, s, append(texts, "if-match", `"a"`)...)
		isFailed(t, s, append([]string{"if-match", `"b"`}, texts...)...)
	}
	fails(at(same), earlier)
	holds(at(same), same)
	holds(at(same), later)
	fails(at(lastOfAll), firstOfAll)
	holds(at(firstOfAll), lastOfAll)
	holds(at(firstOfAll), firstOfAll)
	fails(at(on1970), before1970)
	holds(at(on1970), on1970)
	holds(at(before1970), on1970)
	fails(at(before1970), firstOfAll)
	// of several values the first one counts, on both sides
	fails(at(same), earlier, later)
	holds(at(same), later, earlier)
	fails(at(later, earlier), same)
	holds(at(earlier, later), same)
	for _, text := range noDates {
		holds(at(same), text)
		holds(at(same), text, earlier)
		fails(at(same), earlier, text)
		holds(at(text), earlier)
		holds(at(text, same), earlier)
		fails(at(same, text), earlier)
		holds(at(text), text)
	}
	holds(at(), earlier)
	holds(at(), firstOfAll)
	holds(at(), before1970)
}

func TestIfModifiedSince(t *testing.T) { // P18.1
	isOld := func(s api.Response, values ...string) {
		t.Helper()
		texts := pairs("if-modified-since", values)
		isNotModified(t, s, texts...)
		// with if-none-match it does not count
		isItself(t, s, append([]string{"if-none-match", `"b"`}, texts...)...)
		isItself(t, s, append(texts, "if-none-match", "")...)
		isNotModified(t, s, append(texts, "if-none-match", `W/"a"`)...)
		// with if-match it does
		isNotModified(t, s, append(texts, "if-match", `"a"`)...)
	}
	isNew := func(s api.Response, values ...string) {
		t.Helper()
		texts := pairs("if-modified-since", values)
		isItself(t, s, texts...)
		isItself(t, s, append(texts, "if-none-match", `"b"`)...)
		isNotModified(t, s, append([]string{"if-none-match", `"a"`}, texts...)...)
	}
	isOld(at(same), same)
	isOld(at(same), later)
	isNew(at(same), earlier)
	isOld(at(firstOfAll), lastOfAll)
	isOld(at(firstOfAll), firstOfAll)
	isNew(at(lastOfAll), firstOfAll)
	isOld(at(before1970), on1970)
	isOld(at(on1970), on1970)
	isNew(at(on1970), before1970)
	// of several values the first one counts, on both sides
	isOld(at(same), later, earlier)
	isNew(at(same), earlier, later)
	isOld(at(earlier, later), same)
	isNew(at(later, earlier), same)
	for _, text := range noDates {
		isNew(at(same), text)
		isNew(at(same), text, later)
		isOld(at(same), later, text)
		isNew(at(text), later)
		isNew(at(text, same), later)
		isOld(at(same, text), later)
		isNew(at(text), text)
	}
	isNew(at(), later)
	isNew(at(), on1970)
	isNew(at(), lastOfAll)
}
