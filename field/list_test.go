package field

import (
	"slices"
	"strings"
	"testing"

	"turnbuckle/api"
)

func TestExample(t *testing.T) {
	isDirectives(t, named("cache-control", `max-age="60", No-Store`), with(func(c *Control) { c.MaxAge, c.NoStore = 60, true }))
	isRanges(t, "bytes=0-1, -1", 10, api.Span{From: 0, To: 1}, api.Span{From: 9, To: 9})
}

func TestAll(t *testing.T) { // P17.1
	several := []api.Field{
		header("a", "1"), header("b", "2"), header("A", "3"), header("a", ""), header("aa", "4"), header("", "5"), header("a", "6, 7"), header("a ", "8"), header("a", "1"),
	}
	for _, k := range []struct {
		fields []api.Field
		name   string
		want   []string
	}{
		{nil, "a", nil},
		{nil, "", nil},
		{[]api.Field{}, "a", nil},
		{named("a", "1"), "a", []string{"1"}},
		{named("a", "1"), "b", nil},
		{named("a", "1"), "A", nil},
		{named("A", "1"), "a", nil},
		{named("a", ""), "a", []string{""}},
		{named("a", "2", "1", "2"), "a", []string{"2", "1", "2"}},
		{named("a", " 1\t"), "a", []string{" 1\t"}},
		{named("\xff", "1"), "\xfe", nil},
		{several, "a", []string{"1", "", "6, 7", "1"}},
		{several, "A", []string{"3"}},
		{several, "b", []string{"2"}},
		{several, "aa", []string{"4"}},
		{several, "", []string{"5"}},
		{several, "c", nil},
	} {
		if got := All(k.fields, k.name); !slices.Equal(got, k.want) {
			t.Errorf("All(%q, %q) = %q, want %q", k.fields, k.name, got, k.want)
		}
	}
}

func TestElements(t *testing.T) { // P17.1
	isElements(t, nil)
	isElements(t, []string{})
	isElements(t, []string{""})
	isElements(t, []string{"", "", ""})
	for _, value := range []string{",", ",,", " ", "\t", " \t \t", " ,", ", ", "\t, ,\t,", ",,, ,"} {
		isElements(t, []string{value})
		isElements(t, []string{value, value})
	}
	for _, k := range []struct {
		value string
		want  []string
	}{
		{"a", []string{"a"}},
		{"a,b", []string{"a", "b"}},
		{"b,a,b", []string{"b", "a", "b"}},
		{"a, b , c\t,\td", []string{"a", "b", "c", "d"}},
		{" \ta \t", []string{"a"}},
		{" a b\tc ", []string{"a b\tc"}},
		{",a", []string{"a"}},
		{"a,", []string{"a"}},
		{",,a,, ,b,,", []string{"a", "b"}},
		{"a=1;b=2, c", []string{"a=1;b=2", "c"}},
		{"\x00,\x0b", []string{"\x00", "\x0b"}},
		{"\xff, \xc3\xa4 ,\xc2\xa0", []string{"\xff", "\xc3\xa4", "\xc2\xa0"}},
		{"'a,b'", []string{"'a", "b'"}},
		{`\,a`, []string{`\`, "a"}}, // outside of a string it is a byte like any other
		{`a\`, []string{`a\`}},
	} {
		isElements(t, []string{k.value}, k.want...)
	}
}

func TestBlanksAtEnds(t *testing.T) { // P17.1
	for c := range 256 {
		b := string([]byte{byte(c)})
		switch c {
		case ' ', '\t':
			isElements(t, []string{b + "a" + b + "a" + b}, "a"+b+"a")
			isElements(t, []string{b, b + b})
		case ',':
			isElements(t, []string{b + "a" + b + "a" + b}, "a", "a")
		default:
			isElements(t, []string{b + "a" + b + "a" + b}, b+"a"+b+"a"+b)
			isElements(t, []string{b + "a ", " " + b + "a"}, b+"a", b+"a")
			isElements(t, []string{" a" + b + " ", "\t" + b + "\t"}, "a"+b, b)
		}
	}
}

func TestQuotedStrings(t *testing.T) { // P17.1
	for _, k := range []struct {
		value string
		want  []string
	}{
		{`"a"`, []string{`"a"`}},
		{`"a,b"`, []string{`"a,b"`}},
		{`"a,b",c`, []string{`"a,b"`, "c"}},
		{`a,"b,c"`, []string{"a", `"b,c"`}},
		{`a="b,c", d`, []string{`a="b,c"`, "d"}},
		{`"a,b"c,d`, []string{`"a,b"c`, "d"}},
		{`"a,b"c"d,e",f`, []string{`"a,b"c"d,e"`, "f"}},
		{`"a""b,c",d`, []string{`"a""b,c"`, "d"}},
		{`"a","b"`, []string{`"a"`, `"b"`}},
		{`",",","`, []string{`","`, `","`}},
		{`"",a`, []string{`""`, "a"}},
		{`""`, []string{`""`}},
		{`" a "`, []string{`" a "`}},
		{` " a, " `, []string{`" a, "`}},
		{`"a\",b",c`, []string{`"a\",b"`, "c"}},
		{`"a\\",b",c`, []string{`"a\\"`, `b",c`}},
		{`"a\\\",b",c`, []string{`"a\\\",b"`, "c"}},
		{`"\a,",c`, []string{`"\a,"`, "c"}},
		{`"\,",c`, []string{`"\,"`, "c"}},
		{`a\",b",c`, []string{`a\",b"`, "c"}}, // a string begins at each quote outside of one
		// strings without an end
		{`"`, []string{`"`}},
		{`",`, []string{`",`}},
		{`"a,b`, []string{`"a,b`}},
		{`a,"b,c,`, []string{"a", `"b,c,`}},
		{`"a,b `, []string{`"a,b`}},
		{`"a\"`, []string{`"a\"`}},
		{`"a\",b`, []string{`"a\",b`}},
		{`"\`, []string{`"\`}},
		{`"a,\`, []string{`"a,\`}},
		{`"a\\`, []string{`"a\\`}},
		{`"a\\,b`, []string{`"a\\,b`}},
		{`"\ `, []string{`"\`}},
		{`"a""b,c`, []string{`"a""b,c`}},
		{`a"`, []string{`a"`}},
		{`a",b`, []string{`a",b`}},
	} {
		isElements(t, []string{k.value}, k.want...)
		// No string goes over from one value into the next.
		isElements(t, []string{k.value, "x,y", k.value}, slices.Concat(k.want, []string{"x", "y"}, k.want)...)
	}
}

func TestElementsOfSeveralValues(t *testing.T) { // P17.1
	isElements(t, []string{"a", "b"}, "a", "b")
	isElements(t, []string{"b, c", "", "a", " , ", "\t", "c"}, "b", "c", "a", "c")
	isElements(t, []string{"", "", "a"}, "a")
	isElements(t, []string{"a", "", ","}, "a")
	isElements(t, []string{`"a`, `b"`}, `"a`, `b"`)
	isElements(t, []string{`"a\`, `",b`}, `"a\`, `",b`)
	isElements(t, []string{"a,", ",b"}, "a", "b")
}

func TestLongValues(t *testing.T) { // P17.1
	long := strings.Repeat("a", 100000)
	isElements(t, []string{long}, long)
	isElements(t, []string{`"` + strings.Repeat(",", 100000) + `",a`}, `"`+strings.Repeat(",", 100000)+`"`, "a")
	if got := Elements([]string{strings.Repeat("a,", 100000)}); len(got) != 100000 {
		t.Errorf("there are %d elements", len(got))
	}
	if got, star := Vary(named("vary", strings.Repeat("a,B,", 100000))); star || !slices.Equal(got, []string{"a", "b"}) {
		t.Errorf("Vary has %d names", len(got))
	}
}

func TestVary(t *testing.T) { // P17.2
	isVary(t, nil, false)
	isVary(t, []api.Field{}, false)
	isVary(t, named("vary", ""), false)
	isVary(t, named("vary", " , ,\t", ","), false)
	isVary(t, named("vary", "accept"), false, "accept")
	isVary(t, named("vary", "b, a", "c"), false, "b", "a", "c")
	isVary(t, named("vary", "Accept-Encoding,ORIGIN"), false, "accept-encoding", "origin")
	isVary(t, named("vary", "a, A, a, b", "B,a,c"), false, "a", "b", "c")
	isVary(t, named("vary", "B, b"), false, "b")
	isVary(t, named("vary", `"a,B", c`), false, `"a,b"`, "c")
	isVary(t, named("vary", "a b,@[`{Z"), false, "a b", "@[`{z")
	isVary(t, named("vary", "\xc3\x84, \xff, \u212a, \u017f, K, S"), false, "\xc3\x84", "\xff", "\u212a", "\u017f", "k", "s")
	for _, value := range []string{"*", "*,a", "a,*", "a, * ,b", "*,*", ",\t*"} {
		isVary(t, named("vary", value), true)
		isVary(t, named("vary", "a", value, "b"), true)
		isVary(t, append(named("other", "*"), named("vary", value)...), true)
	}
	isVary(t, named("vary", "a", "b", "*"), true)
	isVary(t, named("vary", `"*", **, a*, *a`), false, `"*"`, "**", "a*", "*a")
	isVary(t, named("Vary", "*"), false)
	isVary(t, named("varys", "*"), false)
	isVary(t, append(named("VARY", "*"), named("vary", "a")...), false, "a")
	isVary(t, append(named("accept", "x"), append(named("vary", "a"), append(named("cookie", "*"), named("vary", "b")...)...)...), false, "a", "b")
}

func TestSmallLettersOfAllBytes(t *testing.T) { // P17.2
	for c := range 256 {
		b := string([]byte{'x', byte(c), 'x'})
		want := b
		if c >= 'A' && c <= 'Z' {
			want = string([]byte{'x', byte(c) + 32, 'x'})
		}
		if c != ',' {
			isVary(t, named("vary", b), false, want)
		}
	}
}
