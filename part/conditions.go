package part

import (
	"slices"

	"turnbuckle/api"
	"turnbuckle/date"
	"turnbuckle/field"
)

// condition tells whether it holds, and what it makes of a response, if it does.
type condition func() (api.Response, bool)

// comesOf is what the first condition that holds makes of a whole response, and the response itself, if none does.
func comesOf(q api.Request, s api.Response) api.Response {
	for _, c := range conditions(q, s) {
		if came, holds := c(); holds {
			return came
		}
	}
	return itself(s)
}

// conditions are those of a request for a whole response, in the order in which they count.
func conditions(q api.Request, s api.Response) []condition {
	own := marksOf(s)
	match := field.All(q.Fields, "if-match")
	noneMatch := field.All(q.Fields, "if-none-match")
	return []condition{
		func() (api.Response, bool) {
			return failed(), len(match) > 0 && !own.isAmong(match, false)
		},
		func() (api.Response, bool) {
			since, ok := firstDate(q.Fields, "if-unmodified-since")
			return failed(), len(match) == 0 && ok && own.hasTime && own.time > since
		},
		func() (api.Response, bool) {
			return notModified(s), own.isAmong(noneMatch, true)
		},
		func() (api.Response, bool) {
			since, ok := firstDate(q.Fields, "if-modified-since")
			return notModified(s), len(noneMatch) == 0 && ok && own.hasTime && own.time <= since
		},
		func() (api.Response, bool) {
			asked := field.All(q.Fields, "range")
			if q.Method != "GET" || len(asked) != 1 || !own.mayBeParted(field.All(q.Fields, "if-range")) {
				return api.Response{}, false
			}
			return ranged(s, asked[0])
		},
	}
}

// marks are what conditions are held against: a response's tag and its time, where it has them.
type marks struct {
	tag     string // as the field tells it, W/ and all
	hasTag  bool
	time    int
	hasTime bool
}

// marksOf are those of a response.
func marksOf(s api.Response) marks {
	var m marks
	m.tag = first(s.Fields, "etag")
	_, _, m.hasTag = field.Tag(m.tag)
	m.time, m.hasTime = firstDate(s.Fields, "last-modified")
	return m
}

// isAmong tells whether values match the tag; where there is none, only * does.
func (m marks) isAmong(values []string, weak bool) bool {
	if m.hasTag {
		return field.Match(values, m.tag, weak)
	}
	return slices.Contains(field.Elements(values), "*")
}

// mayBeParted tells whether the values of if-range let a part be answered.
func (m marks) mayBeParted(values []string) bool {
	return len(values) == 0 || len(values) == 1 && (m.isTag(values[0]) || m.isTime(values[0]))
}

// isTag tells whether a value is the tag, strongly.
func (m marks) isTag(value string) bool {
	// A value may match and be no tag: a * does, and so may one of several elements.
	_, _, isTag := field.Tag(value)
	return isTag && field.Match([]string{value}, m.tag, false)
}

// isTime tells whether a value is the time.
func (m marks) isTime(value string) bool {
	time, e := date.Parse(value)
	return e == api.OK && m.hasTime && time == m.time
}

// firstDate is the date that the first value of a name is, and whether it is one.
func firstDate(l []api.Field, name string) (int, bool) {
	n, e := date.Parse(first(l, name))
	return n, e == api.OK
}
