package field

import (
	"strings"

	"turnbuckle/api"
)

const (
	mostSeconds = 1 << 31
	notThere    = -1
)

// Control are directives.
type Control struct {
	NoStore, NoCache, MustRevalidate, Public, Private, OnlyIfCached bool
	MaxAge, SMaxAge, MinFresh, MaxStale, Stale, Error               int
}

// directive is an element of cache-control.
type directive struct {
	name     string
	argument string
	assigned bool // whether it has a =, as an argument may be empty
}

// Seconds is a number of seconds.
func Seconds(s string) (int, bool) {
	if !areDigits(s) {
		return 0, false
	}
	seconds := 0
	for i := range len(s) {
		// Held down at each digit, it never grows out of its bits.
		seconds = min(10*seconds+int(s[i]-'0'), mostSeconds)
	}
	return seconds, true
}

// Directives are those of cache-control.
func Directives(l []api.Field) Control {
	c := Control{MaxAge: notThere, SMaxAge: notThere, MinFresh: notThere, MaxStale: notThere, Stale: notThere, Error: notThere}
	anyElement(All(l, "cache-control"), func(element string) bool {
		note(&c, directiveOf(element))
		return false
	})
	return c
}

// directiveOf is the directive that an element is.
func directiveOf(element string) directive {
	name, argument, assigned := strings.Cut(element, "=")
	return directive{name: small(name), argument: unquoted(argument), assigned: assigned}
}

// unquoted is an argument without the quotes at both its ends.
func unquoted(argument string) string {
	inside, opened := strings.CutPrefix(argument, `"`)
	inside, closed := strings.CutSuffix(inside, `"`)
	if opened && closed {
		return inside
	}
	return argument
}

// note notes a directive that stands behind those that were noted.
func note(c *Control, d directive) {
	switch d.name {
	case "no-store":
		c.NoStore = true
	case "no-cache":
		c.NoCache = true
	case "must-revalidate", "proxy-revalidate":
		c.MustRevalidate = true
	case "public":
		c.Public = true
	case "private":
		c.Private = true
	case "only-if-cached":
		c.OnlyIfCached = true
	case "max-age":
		noteFirst(&c.MaxAge, d.seconds())
	case "s-maxage":
		noteFirst(&c.SMaxAge, d.seconds())
	case "min-fresh":
		noteFirst(&c.MinFresh, d.seconds())
	case "max-stale":
		noteFirst(&c.MaxStale, d.secondsOrMost())
	case "stale-while-revalidate":
		noteFirst(&c.Stale, d.seconds())
	case "stale-if-error":
		noteFirst(&c.Error, d.seconds())
	}
}

// noteFirst notes seconds where none are: a directive that comes once more counts for nothing.
func noteFirst(noted *int, seconds int) {
	if *noted == notThere {
		*noted = seconds
	}
}

// seconds are those of the argument, and 0 of one that is no number of seconds.
func (d directive) seconds() int {
	seconds, _ := Seconds(d.argument)
	return seconds
}

// secondsOrMost are as many as may be, of a directive that has no argument at all.
func (d directive) secondsOrMost() int {
	if !d.assigned {
		return mostSeconds
	}
	return d.seconds()
}
