package field

import (
	"math/rand"
	"reflect"
	"slices"
	"strconv"
	"strings"
	"testing"

	"turnbuckle/api"
)

// pieces are those of which values are drawn.
func pieces() []string {
	return []string{",", ",", " ", "\t", `"`, `"`, `\`, "=", "a", "B", "*", "W/", `"a"`, `W/"a"`, `"b"`, `"a,b"`, "no-store", "Max-Age", "max-stale", "s-maxage", "private", "=60", `="7"`, "x", "0", "9", "\xff", "é"}
}

func drawnValues(row *rand.Rand) []string {
	var values []string
	for range row.Intn(5) {
		values = append(values, drawn(row, 10, pieces()...))
	}
	return values
}

func drawnFields(row *rand.Rand) []api.Field {
	names := []string{"cache-control", "vary", "Vary", "etag", "cache-control"}
	var l []api.Field
	for _, value := range drawnValues(row) {
		l = append(l, header(names[row.Intn(len(names))], value))
	}
	return l
}

func TestElementsOfRows(t *testing.T) { // P17.1, P17.5
	row := rand.New(rand.NewSource(1))
	for range 100000 {
		values := drawnValues(row)
		want := plainElements(values)
		if got := Elements(values); !slices.Equal(got, want) {
			t.Fatalf("Elements(%q) = %q, want %q", values, got, want)
		}
		// values one behind the other have the elements of all
		var behind []string
		for _, value := range values {
			behind = append(behind, Elements([]string{value})...)
		}
		if !slices.Equal(behind, want) {
			t.Fatalf("the values of %q have, one by one, %q", values, behind)
		}
	}
}

// TestElementsWithCommasBetween joins elements whose strings end.
func TestElementsWithCommasBetween(t *testing.T) { // P17.5
	row := rand.New(rand.NewSource(2))
	between := []string{",", ", ", " ,", ",,", ", ,", "\t,\t"}
	long := 0
	for range 100000 {
		var elements []string
		for range row.Intn(6) {
			inner := drawn(row, 4, ",", " ", "a", `\"`, `\\`, `\,`, "=", "\xff")
			element := strings.Trim(drawn(row, 4, "a", "=", `\`, "é", `"`+inner+`"`, "b c", "d\te", "*"), " \t")
			if element != "" {
				elements = append(elements, element)
			}
		}
		if len(elements) > 3 {
			long++
		}
		comma := between[row.Intn(len(between))]
		if got := Elements([]string{strings.Join(elements, comma)}); !slices.Equal(got, elements) {
			t.Fatalf("%q with %q between are %q", elements, comma, got)
		}
	}
	if long < 10000 {
		t.Errorf("only %d rows are long", long)
	}
}

func TestDirectivesOfRows(t *testing.T) { // P17.1, P17.2
	row := rand.New(rand.NewSource(3))
	names := []string{"no-store", "No-Cache", "must-revalidate", "PROXY-revalidate", "public", "private", "only-if-cached", "max-age", "MAX-age", "s-maxage", "min-fresh", "max-stale", "stale-while-revalidate", "stale-if-error", "x", "max-ages"}
	arguments := []string{"", "", "=", "=0", "=60", `="60"`, "=2147483648", "=99999999999999999999", "=x", `="`, `="6`, `=""`, "= 1", `="a,no-store"`}
	for range 50000 {
		l := drawnFields(row)
		for range row.Intn(3) {
			var elements []string
			for range row.Intn(5) {
				elements = append(elements, names[row.Intn(len(names))]+arguments[row.Intn(len(arguments))])
			}
			l = append(l, header("cache-control", strings.Join(elements, ", ")))
		}
		row.Shuffle(len(l), func(i, j int) { l[i], l[j] = l[j], l[i] })
		isDirectives(t, l, plainDirectives(l))
		names, star := plainVary(l)
		isVary(t, l, star, names...)
		if t.Failed() {
			return
		}
	}
}

func TestSecondsOfRows(t *testing.T) { // P17.1
	row := rand.New(rand.NewSource(4))
	for range 100000 {
		s := drawn(row, 25, "0", "1", "2", "9", "4", "7")
		if row.Intn(4) == 0 {
			s += drawn(row, 1, "a", " ", "-", "\xff") + drawn(row, 3, "0", "5")
		} else if row.Intn(4) == 0 {
			s = drawn(row, 3, "0") + strconv.Itoa(most-100+row.Intn(200))
		}
		want, wantOk := plainSeconds(s)
		if got, ok := Seconds(s); got != want || ok != wantOk {
			t.Fatalf("Seconds(%q) = %d, %v; want %d, %v", s, got, ok, want, wantOk)
		}
	}
}

func TestTagsOfRows(t *testing.T) { // P17.3
	row := rand.New(rand.NewSource(5))
	for range 100000 {
		s := drawn(row, 1, "W/", "w/", " ", "W") + drawn(row, 2, `"`) + drawn(row, 3, "a", "!", "~", " ", "\x7f", `"`, "\x80", ",", `\`) + drawn(row, 2, `"`)
		want, wantWeak, wantOk := plainTagOf(s)
		if got, weak, ok := Tag(s); got != want || weak != wantWeak || ok != wantOk {
			t.Fatalf("Tag(%q) = %q, %v, %v; want %q, %v, %v", s, got, weak, ok, want, wantWeak, wantOk)
		}
	}
}

func TestMatchesOfRows(t *testing.T) { // P17.3, P17.7
	row := rand.New(rand.NewSource(6))
	tags := []string{`"a"`, `W/"a"`, `"b"`, `W/"b"`, `""`, `W/""`, `"a,b"`, `"*"`, `"A"`, "*", "a", `w/"a"`, `"a`}
	matched := 0
	for range 100000 {
		values := drawnValues(row)
		for range row.Intn(3) {
			values = append(values, drawn(row, 2, `"c", `, "x ,", ",")+tags[row.Intn(len(tags))])
		}
		tag := tags[row.Intn(len(tags))]
		weak, strong := Match(values, tag, true), Match(values, tag, false)
		if weak != plainMatch(values, tag, true) || strong != plainMatch(values, tag, false) {
			t.Fatalf("Match(%q, %q) is %v weakly and %v strongly", values, tag, weak, strong)
		}
		if strong && !weak {
			t.Fatalf("Match(%q, %q) strongly alone", values, tag)
		}
		if weak {
			matched++
		}
	}
	if matched < 10000 {
		t.Errorf("only %d rows matched", matched)
	}
}

func TestMatchBothWays(t *testing.T) { // P17.7
	row := rand.New(rand.NewSource(7))
	pick := func() string {
		return []string{"", "W/"}[row.Intn(2)] + `"` + drawn(row, 3, "a", "b", ",", "*", "!") + `"`
	}
	for range 100000 {
		a, b := pick(), pick()
		for _, weak := range []bool{false, true} {
			if Match([]string{a}, b, weak) != Match([]string{b}, a, weak) {
				t.Fatalf("%s and %s match one way alone", a, b)
			}
			if Match([]string{a}, a, weak) != (weak || a[0] != 'W') {
				t.Fatalf("%s and itself", a)
			}
		}
		if Match([]string{a}, b, false) && !Match([]string{a}, b, true) {
			t.Fatalf("%s and %s match strongly alone", a, b)
		}
	}
}

func TestRangesOfRows(t *testing.T) { // P17.4, P17.6
	row := rand.New(rand.NewSource(8))
	numbers := []string{"0", "1", "2", "00", "5", "9", "10", "11", "007", "999999999999999999", "000000000000000003", "1000000000000000000", "1099511627776", "1099511627775", "", "", "x"}
	lengths := []int{0, 1, 2, 3, 10, 11, 1<<40 - 1, 1 << 40, 1<<40 + 1, -1}
	seen := map[api.Errno]int{}
	for range 200000 {
		unit, parts := "bytes=", []string{}
		if row.Intn(20) == 0 {
			unit = []string{"Bytes=", "bytes", "byte=", ""}[row.Intn(4)]
		}
		broken := row.Intn(3) == 0
		for range 1 + row.Intn(2)*row.Intn(20) {
			from := row.Intn(12)
			part := []string{strconv.Itoa(from) + "-" + strconv.Itoa(from+row.Intn(5)), "-" + strconv.Itoa(from), strconv.Itoa(from) + "-", "10-", "-0", "-00"}[row.Intn(6)]
			if broken && row.Intn(3) == 0 {
				part = numbers[row.Intn(len(numbers))] + "-" + numbers[row.Intn(len(numbers))]
			} else if broken && row.Intn(20) == 0 {
				part = drawn(row, 3, append(numbers, "-")...)
			}
			parts = append(parts, drawn(row, 1, " ", "\t")+part+drawn(row, 1, " ", "\t"))
		}
		length := lengths[row.Intn(len(lengths))]
		text := unit + strings.Join(parts, ",")
		want, wantE := plainRanges(text, length)
		got, e := Ranges(text, length)
		if e != wantE || !slices.Equal(got, want) {
			t.Fatalf("Ranges(%q, %d) = %v, %v; want %v, %v", text, length, got, e, want, wantE)
		}
		for _, r := range got {
			if r.From < 0 || r.From > r.To || r.To >= length {
				t.Fatalf("Ranges(%q, %d) = %v, which lies not within", text, length, got)
			}
		}
		seen[e]++
	}
	for _, e := range []api.Errno{api.OK, api.ErrForm, api.ErrMany, api.ErrNone} {
		if seen[e] < 500 {
			t.Errorf("only %d rows have %v", seen[e], e)
		}
	}
}

// TestNothingIsTurned hands lists in with room behind them, and writes over what is answered.
func TestNothingIsTurned(t *testing.T) { // R3, R4
	row := rand.New(rand.NewSource(9))
	for range 5000 {
		fields := append(drawnFields(row), header("vary", "a, B"), header("cache-control", "max-age=5"), header("etag", "behind"))
		values := append(drawnValues(row), "a, b", "c", "behind")
		keptFields, keptValues := slices.Clone(fields), slices.Clone(values)
		l, v := fields[:len(fields)-1], values[:len(values)-1]
		type answers struct {
			all, elements, names []string
			control              Control
			star, match          bool
			spans                []api.Span
		}
		ask := func() answers {
			var a answers
			a.all, a.elements = All(l, "vary"), Elements(v)
			a.names, a.star = Vary(l)
			a.control, a.match = Directives(l), Match(v, `"a"`, true)
			a.spans, _ = Ranges("bytes=0-1,-2", 10)
			return a
		}
		first, second := ask(), ask()
		if !reflect.DeepEqual(first, second) {
			t.Fatalf("asked twice: %v and %v", first, second)
		}
		for _, texts := range [][]string{first.all, first.elements, first.names} {
			texts = texts[:cap(texts)]
			for i := range texts {
				texts[i] = "written over"
			}
		}
		for i := range first.spans {
			first.spans[i] = api.Span{From: -1, To: -1}
		}
		if third := ask(); !reflect.DeepEqual(second, third) {
			t.Fatalf("when an answer was written over: %v and %v", second, third)
		}
		if !slices.Equal(fields, keptFields) || !slices.Equal(values, keptValues) {
			t.Fatalf("%q or %q were turned", fields, values)
		}
	}
}
