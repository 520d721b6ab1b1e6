package field

import (
	"strings"
	"testing"
)

func TestTags(t *testing.T) { // P17.3
	isTag(t, `""`, `""`, false)
	isTag(t, `W/""`, `""`, true)
	isTag(t, `"a"`, `"a"`, false)
	isTag(t, `W/"a"`, `"a"`, true)
	isTag(t, `"W/"`, `"W/"`, false)
	isTag(t, `W/"W/"`, `"W/"`, true)
	isTag(t, `"*"`, `"*"`, false)
	isTag(t, `"a,b"`, `"a,b"`, false)
	isTag(t, `"\"`, `"\"`, false)
	isTag(t, `"!~"`, `"!~"`, false)
}

func TestNoTags(t *testing.T) { // P17.3
	for _, s := range []string{"", `"`, `"""`, `""""`, "a", "*", "W", "W/", `W/"`, `W`, `W/*`, `w/"a"`, `w/""`, `W"a"`, `W\"a"`, `W/W/"a"`, `W/ "a"`, `W /"a"`, `/"a"`,
		`a"`, `"a`, `"a"b`, `b"a"`, ` "a"`, `"a" `, "\t\"a\"", "\"a\"\t", ` W/"a"`, `W/"a" `, `"a"W/`, `"a" "b"`, `"a""b"`, `"a"b"`, `"a","b"`, `"a\"b"`, `'a'`, `"a'`, `"a" W/"a"`, "\"a\"\n", "\"a\"\x00", "“a”"} {
		isNoTag(t, s)
	}
}

func TestBytesOfTags(t *testing.T) { // P17.3
	for c := range 256 {
		b := string([]byte{byte(c)})
		for _, text := range []string{`"` + b + `"`, `"x` + b + `"`, `"` + b + `x"`, `"x` + b + `x"`} {
			if c >= 33 && c <= 126 && c != '"' {
				isTag(t, text, text, false)
				isTag(t, "W/"+text, text, true)
			} else {
				isNoTag(t, text)
				isNoTag(t, "W/"+text)
			}
		}
		isNoTag(t, b+`"x"`)
		isNoTag(t, `"x"`+b)
		isNoTag(t, b)
		if c != '"' {
			isNoTag(t, b+`x"`)
			isNoTag(t, `"x`+b)
		}
		if c != 'W' {
			isNoTag(t, b+`/"x"`)
		}
		if c != '/' {
			isNoTag(t, "W"+b+`"x"`)
		}
	}
}

func TestLengthsOfTags(t *testing.T) { // P17.3
	sized := func(n int) string { return `"` + strings.Repeat("a", n-2) + `"` }
	for _, n := range []int{2, 3, 509, 510} {
		isTag(t, sized(n), sized(n), false)
		isTag(t, "W/"+sized(n), sized(n), true)
	}
	for _, n := range []int{511, 512} {
		isTag(t, sized(n), sized(n), false)
		isNoTag(t, "W/"+sized(n))
	}
	for _, n := range []int{513, 514, 1000, 100000} {
		isNoTag(t, sized(n))
		isNoTag(t, "W/"+sized(n))
	}
	matches(t, []string{sized(512)}, sized(512), true, true)
	matches(t, []string{sized(513)}, sized(513), false, false)
	matches(t, []string{"W/" + sized(511)}, sized(511), false, false)
	matches(t, []string{sized(511)}, "W/"+sized(511), false, false)
	matches(t, []string{"*"}, sized(513), false, false)
}

func TestMatch(t *testing.T) { // P17.3
	matches(t, nil, `"a"`, false, false)
	matches(t, []string{}, `"a"`, false, false)
	matches(t, []string{""}, `"a"`, false, false)
	matches(t, []string{`"a"`}, `"a"`, true, true)
	matches(t, []string{`W/"a"`}, `"a"`, true, false)
	matches(t, []string{`"a"`}, `W/"a"`, true, false)
	matches(t, []string{`W/"a"`}, `W/"a"`, true, false)
	matches(t, []string{`""`}, `""`, true, true)
	matches(t, []string{`W/""`}, `""`, true, false)
	matches(t, []string{`"a"`}, `"b"`, false, false)
	matches(t, []string{`"a"`}, `"A"`, false, false)
	matches(t, []string{`W/"a"`}, `W/"b"`, false, false)
	matches(t, []string{`"a"`}, `"aa"`, false, false)
	matches(t, []string{`"aa"`}, `"a"`, false, false)
	// several values and elements
	matches(t, []string{`"b", "a"`}, `"a"`, true, true)
	matches(t, []string{`"b"`, ``, `"c" , W/"d","a"`}, `"a"`, true, true)
	matches(t, []string{`"b"`, ``, `"c" , W/"d","a"`}, `"d"`, true, false)
	matches(t, []string{`"b"`, ``, `"c" , W/"d","a"`}, `"e"`, false, false)
	matches(t, []string{`W/"a", "a"`}, `"a"`, true, true)
	matches(t, []string{`W/"a"`, `"a"`}, `"a"`, true, true)
	matches(t, []string{`"a"`, `W/"a"`}, `"a"`, true, true)
	matches(t, []string{`"a"`, `W/"a"`}, `W/"a"`, true, false)
	matches(t, []string{"\t\"a\" "}, `"a"`, true, true)
	// commas within tags
	matches(t, []string{`"a,b"`}, `"a,b"`, true, true)
	matches(t, []string{`"x,a,b"`}, `"a"`, false, false)
	matches(t, []string{`"x","a","b"`}, `","`, false, false)
	// elements that are no tags
	for _, element := range []string{"a", `"a`, `a"`, `w/"a"`, `"a" "b"`, `W/ "a"`, `"a"x`, `x"a"`, `"a";q=1`, "\"a\x80\"", "\"a\"\n", `"b","a`} {
		matches(t, []string{element}, `"a"`, false, false)
		matches(t, []string{element, `"a"`}, `"a"`, true, true)
	}
	// what is asked of is no tag
	for _, tag := range []string{"", "a", "*", `"`, `"a`, `a"`, `w/"a"`, `"a" `, ` "a"`, `"a", "b"`, "W/", "\"a\x80\"", `"a b"`} {
		matches(t, []string{tag}, tag, false, false)
		matches(t, []string{`"a"`, "*"}, tag, false, false)
	}
}

func TestMatchOfStar(t *testing.T) { // P17.3
	for _, tag := range []string{`"a"`, `W/"a"`, `""`, `W/""`, `"*"`} {
		matches(t, []string{"*"}, tag, true, true)
		matches(t, []string{" *\t"}, tag, true, true)
		matches(t, []string{`"b", *`}, tag, true, true)
		matches(t, []string{`*, "b"`}, tag, true, true)
		matches(t, []string{"x", "", "*"}, tag, true, true)
		for _, element := range []string{"**", "W/*", "* *", "a*", "*a", `"**"`, "%2A", `"b*"`} {
			matches(t, []string{element}, tag, false, false)
		}
	}
	matches(t, []string{`"*"`}, `"a"`, false, false)
	matches(t, []string{`"*"`}, `"*"`, true, true)
	matches(t, []string{`"*`}, `"a"`, false, false)
}
