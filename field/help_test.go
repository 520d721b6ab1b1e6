package field

import (
	"math/big"
	"math/rand"
	"regexp"
	"slices"
	"strconv"
	"strings"
	"testing"

	"turnbuckle/api"
)

const most = 1 << 31

func header(name, value string) api.Field {
	return api.Field{Name: name, Value: value}
}

// named are fields of one name.
func named(name string, values ...string) []api.Field {
	var l []api.Field
	for _, value := range values {
		l = append(l, header(name, value))
	}
	return l
}

// none are the directives of no field.
func none() Control {
	return Control{MaxAge: -1, SMaxAge: -1, MinFresh: -1, MaxStale: -1, Stale: -1, Error: -1}
}

// with are the directives of no field, but for what is turned.
func with(turn func(*Control)) Control {
	c := none()
	turn(&c)
	return c
}

var (
	plainElement = regexp.MustCompile(`(?s)\A(?:[^",]|"(?:[^"\\]|\\.)*(?:"|\\?\z))*`)
	plainTag     = regexp.MustCompile(`\A(W/)?("[\x21\x23-\x7E]*")\z`)
	plainPart    = regexp.MustCompile(`\A[ \t]*(?:([0-9]{1,18})-([0-9]{0,18})|-([0-9]{1,18}))[ \t]*\z`)
	plainUnit    = regexp.MustCompile(`\A[Bb][Yy][Tt][Ee][Ss]=`)
	plainDigits  = regexp.MustCompile(`\A[0-9]+\z`)
	plainBlanks  = regexp.MustCompile(`\A[ \t]+|[ \t]+\z`)
)

// plainElements finds elements by a pattern.
func plainElements(values []string) []string {
	var l []string
	for _, value := range values {
		for value != "" {
			element := plainElement.FindString(value)
			value = strings.TrimPrefix(value[len(element):], ",")
			if element = plainBlanks.ReplaceAllString(element, ""); element != "" {
				l = append(l, element)
			}
		}
	}
	return l
}

// plainSmall turns letter by letter.
func plainSmall(s string) string {
	for c := 'A'; c <= 'Z'; c++ {
		s = strings.ReplaceAll(s, string(c), string(c+'a'-'A'))
	}
	return s
}

// plainSeconds reads numbers of any length.
func plainSeconds(s string) (int, bool) {
	if !plainDigits.MatchString(s) {
		return 0, false
	}
	n, _ := new(big.Int).SetString(s, 10)
	if n.Cmp(big.NewInt(most)) > 0 {
		return most, true
	}
	return int(n.Int64()), true
}

// plainArguments are the arguments of a directive, and with them whether it has one.
func plainArguments(l []api.Field, name string) (arguments []string, has []bool) {
	for _, element := range plainElements(All(l, "cache-control")) {
		parts := strings.SplitN(element, "=", 2)
		if plainSmall(parts[0]) != name {
			continue
		}
		argument := strings.Join(parts[1:], "")
		if len(argument) > 1 && argument[0] == '"' && argument[len(argument)-1] == '"' {
			argument = argument[1 : len(argument)-1]
		}
		arguments, has = append(arguments, argument), append(has, len(parts) > 1)
	}
	return arguments, has
}

func plainDirectives(l []api.Field) Control {
	there := func(name string) bool {
		arguments, _ := plainArguments(l, name)
		return len(arguments) > 0
	}
	seconds := func(name string) int {
		arguments, has := plainArguments(l, name)
		if len(arguments) == 0 {
			return -1
		}
		if name == "max-stale" && !has[0] {
			return most
		}
		n, _ := plainSeconds(arguments[0])
		return n
	}
	return Control{
		NoStore: there("no-store"), NoCache: there("no-cache"), MustRevalidate: there("must-revalidate") || there("proxy-revalidate"),
		Public: there("public"), Private: there("private"), OnlyIfCached: there("only-if-cached"),
		MaxAge: seconds("max-age"), SMaxAge: seconds("s-maxage"), MinFresh: seconds("min-fresh"), MaxStale: seconds("max-stale"),
		Stale: seconds("stale-while-revalidate"), Error: seconds("stale-if-error"),
	}
}

func plainVary(l []api.Field) ([]string, bool) {
	var names []string
	for _, element := range plainElements(All(l, "vary")) {
		if name := plainSmall(element); !slices.Contains(names, name) {
			names = append(names, name)
		}
	}
	if slices.Contains(names, "*") {
		return nil, true
	}
	return names, false
}

func plainTagOf(s string) (string, bool, bool) {
	m := plainTag.FindStringSubmatch(s)
	if m == nil || len(s) > 512 {
		return "", false, false
	}
	return m[2], m[1] != "", true
}

func plainMatch(values []string, tag string, weak bool) bool {
	text, isWeak, ok := plainTagOf(tag)
	if !ok {
		return false
	}
	for _, element := range plainElements(values) {
		switch element {
		case "*", text:
			if element == "*" || weak || !isWeak {
				return true
			}
		case "W/" + text:
			if _, _, ok := plainTagOf(element); ok && weak {
				return true
			}
		}
	}
	return false
}

// plainRanges marks, part by part, what lies in a range.
func plainRanges(s string, length int) ([]api.Span, api.Errno) {
	unit := plainUnit.FindString(s)
	if unit == "" || length < 0 || length > 1<<40 {
		return nil, api.ErrForm
	}
	var l []api.Span
	texts := strings.Split(s[len(unit):], ",")
	for _, text := range texts {
		m := plainPart.FindStringSubmatch(text)
		if m == nil {
			return nil, api.ErrForm
		}
		a, _ := strconv.Atoi(m[1])
		b, _ := strconv.Atoi(m[2])
		n, _ := strconv.Atoi(m[3])
		if m[2] == "" {
			b = 1 << 60
		} else if a > b {
			return nil, api.ErrForm
		}
		if m[3] != "" {
			a, b = length-n, length-1
			if n > length {
				a = 0
			}
		}
		if b >= length {
			b = length - 1
		}
		if a < length && a <= b {
			l = append(l, api.Span{From: a, To: b})
		}
	}
	switch {
	case len(texts) > 16:
		return nil, api.ErrMany
	case len(l) == 0:
		return nil, api.ErrNone
	}
	return l, api.OK
}

// drawn is a text of pieces that are drawn.
func drawn(row *rand.Rand, most int, pieces ...string) string {
	var s strings.Builder
	for range row.Intn(most + 1) {
		s.WriteString(pieces[row.Intn(len(pieces))])
	}
	return s.String()
}

func isElements(t *testing.T, values []string, want ...string) {
	t.Helper()
	if got := Elements(values); !slices.Equal(got, want) {
		t.Errorf("Elements(%q) = %q, want %q", values, got, want)
	}
}

func isDirectives(t *testing.T, l []api.Field, want Control) {
	t.Helper()
	if got := Directives(l); got != want {
		t.Errorf("Directives(%q) = %+v, want %+v", l, got, want)
	}
}

func isVary(t *testing.T, l []api.Field, star bool, want ...string) {
	t.Helper()
	if got, gotStar := Vary(l); !slices.Equal(got, want) || gotStar != star {
		t.Errorf("Vary(%q) = %q, %v; want %q, %v", l, got, gotStar, want, star)
	}
}

func isTag(t *testing.T, s, want string, weak bool) {
	t.Helper()
	if got, gotWeak, ok := Tag(s); got != want || gotWeak != weak || !ok {
		t.Errorf("Tag(%q) = %q, %v, %v; want %q, %v", s, got, gotWeak, ok, want, weak)
	}
}

func isNoTag(t *testing.T, s string) {
	t.Helper()
	if got, weak, ok := Tag(s); got != "" || weak || ok {
		t.Errorf("Tag(%q) = %q, %v, %v; want none", s, got, weak, ok)
	}
}

// matches asks with weak matching and with strong matching.
func matches(t *testing.T, values []string, tag string, weak, strong bool) {
	t.Helper()
	if got := Match(values, tag, true); got != weak {
		t.Errorf("Match(%q, %q, weak) = %v", values, tag, got)
	}
	if got := Match(values, tag, false); got != strong {
		t.Errorf("Match(%q, %q, strong) = %v", values, tag, got)
	}
}

func isRanges(t *testing.T, s string, length int, want ...api.Span) {
	t.Helper()
	if got, e := Ranges(s, length); e != api.OK || !slices.Equal(got, want) {
		t.Errorf("Ranges(%q, %d) = %v, %v; want %v", s, length, got, e, want)
	}
}

func noRanges(t *testing.T, s string, length int, want api.Errno) {
	t.Helper()
	if got, e := Ranges(s, length); e != want || len(got) != 0 {
		t.Errorf("Ranges(%q, %d) = %v, %v; want %v", s, length, got, e, want)
	}
}
