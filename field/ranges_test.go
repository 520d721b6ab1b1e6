package field

import (
	"math"
	"strconv"
	"strings"
	"testing"

	"turnbuckle/api"
)

const longest = 1 << 40

func span(from, to int) api.Span {
	return api.Span{From: from, To: to}
}

func TestRanges(t *testing.T) { // P17.4
	for _, k := range []struct {
		text string
		want []api.Span
	}{
		{"0-0", []api.Span{span(0, 0)}},
		{"0-4", []api.Span{span(0, 4)}},
		{"2-4", []api.Span{span(2, 4)}},
		{"4-4", []api.Span{span(4, 4)}},
		{"0-8", []api.Span{span(0, 8)}},
		{"0-9", []api.Span{span(0, 9)}},
		{"0-10", []api.Span{span(0, 9)}},
		{"0-11", []api.Span{span(0, 9)}},
		{"0-999999999999999999", []api.Span{span(0, 9)}},
		{"8-9", []api.Span{span(8, 9)}},
		{"9-9", []api.Span{span(9, 9)}},
		{"9-10", []api.Span{span(9, 9)}},
		{"0-", []api.Span{span(0, 9)}},
		{"8-", []api.Span{span(8, 9)}},
		{"9-", []api.Span{span(9, 9)}},
		{"-1", []api.Span{span(9, 9)}},
		{"-2", []api.Span{span(8, 9)}},
		{"-9", []api.Span{span(1, 9)}},
		{"-10", []api.Span{span(0, 9)}},
		{"-11", []api.Span{span(0, 9)}},
		{"-999999999999999999", []api.Span{span(0, 9)}},
		// 0s ahead
		{"00-01", []api.Span{span(0, 1)}},
		{"000000000000000002-000000000000000004", []api.Span{span(2, 4)}},
		{"-000000000000000001", []api.Span{span(9, 9)}},
		{"000000000000000007-", []api.Span{span(7, 9)}},
		{"010-", nil},
		{"08-09", []api.Span{span(8, 9)}},
		// none left
		{"10-10", nil},
		{"10-", nil},
		{"11-20", nil},
		{"-0", nil},
		{"-00", nil},
		{"999999999999999999-", nil},
		{"999999999999999999-999999999999999999", nil},
		{"10-,-0,11-12", nil},
		// several, in order
		{"0-1,-1", []api.Span{span(0, 1), span(9, 9)}},
		{"5-6,0-1", []api.Span{span(5, 6), span(0, 1)}},
		{"0-1,0-1,1-2", []api.Span{span(0, 1), span(0, 1), span(1, 2)}},
		{"0-,-20,3-30", []api.Span{span(0, 9), span(0, 9), span(3, 9)}},
		{"10-,3-4,-0", []api.Span{span(3, 4)}},
		{"3-4,10-,-0,9-", []api.Span{span(3, 4), span(9, 9)}},
		// blanks
		{" 0-1", []api.Span{span(0, 1)}},
		{"0-1 ", []api.Span{span(0, 1)}},
		{"\t 0-1\t \t, \t-1\t", []api.Span{span(0, 1), span(9, 9)}},
		{" 0- ,\t-1 , 2-3", []api.Span{span(0, 9), span(9, 9), span(2, 3)}},
	} {
		for _, unit := range []string{"bytes=", "BYTES=", "Bytes=", "bYtEs="} {
			if k.want == nil {
				noRanges(t, unit+k.text, 10, api.ErrNone)
			} else {
				isRanges(t, unit+k.text, 10, k.want...)
			}
		}
	}
}

func TestNoRanges(t *testing.T) { // P17.4
	for _, text := range []string{"", " ", "\t", "-", " - ", "--", "0", "10", "a", "a-b", "0-b", "a-1", "-a", "a-", "0-1-2", "0--1", "--1", "-1-", "-1-2", "0-1-", "+0-1", "0-+1", "-+1", "-0-", "0x0-1", "0.0-1",
		"1-0", "2-1", "10-9", "11-10", "999999999999999999-999999999999999998", "01-00", "20-10",
		"0 -1", "0- 1", "0 - 1", "- 1", "0 0-1", "0-1 1", "0-1;", "0-1.", "\n0-1", "0-1\n", "\v0-1", "0-1\r", "\u00a00-1", "0-1\x00",
		",", ",,", "0-1,", ",0-1", "0-1,,2-3", "0-1, ,2-3", ", 0-1", "0-1 ,", "0-1;2-3", "0-1 2-3", "0-1,a", "a,0-1", "0-1,2", "0-1,3-2", "3-2,0-1", "0-1,-", `"0-1"`, `"0-1,2-3"`, "=0-1", "0=1",
		"0000000000000000000-1", "1000000000000000000-", "0-1000000000000000000", "0-0000000000000000001", "-1000000000000000000", "-0000000000000000001", "0-9223372036854775807", "-9223372036854775808", "18446744073709551616-18446744073709551617", "-18446744073709551617",
		"bytes=0-1", "0-1,bytes=2-3", "\u0660-1"} {
		for _, length := range []int{0, 1, 10, longest} {
			noRanges(t, "bytes="+text, length, api.ErrForm)
		}
	}
	for _, unit := range []string{"", "b", "byte", "bytes", "byte=", "bytess=", "bytes:", "bytes ", "bytes =", "bytes-", " bytes=", "\tbytes=", "bits=", "Byte=", "xbytes=", "bytes\x00=", "byte\u017f=", "b\u00dftes=", "=", "items=", `"bytes"=`, "bytes\t=", "BYTE\xd3="} {
		noRanges(t, unit+"0-1", 10, api.ErrForm)
		noRanges(t, unit, 10, api.ErrForm)
	}
	noRanges(t, "bytes=", 10, api.ErrForm)
}

func TestBytesOfRanges(t *testing.T) { // P17.4
	for c := range 256 {
		b := string([]byte{byte(c)})
		digit := c >= '0' && c <= '9'
		blank := c == ' ' || c == '\t'
		for _, k := range []struct {
			text string
			ok   bool
		}{
			{"bytes=" + b + "2-99", digit || blank},
			{"bytes=2" + b + "-99", digit},
			{"bytes=2-" + b + "99", digit},
			{"bytes=2-99" + b, digit || blank},
			{"bytes=" + b + "-99", digit || blank},
			{"bytes=2-" + b, digit && c >= '2' || blank},
			{"bytes=2" + b + "99", c == '-'},
			{"bytes" + b + "2-99", c == '='},
			{"bytes=2-3" + b + "4-99", c == ','},
			{b + "bytes=2-99", false},
			{b + "ytes=2-99", c == 'b' || c == 'B'},
			{"b" + b + "tes=2-99", c == 'y' || c == 'Y'},
			{"by" + b + "es=2-99", c == 't' || c == 'T'},
			{"byt" + b + "s=2-99", c == 'e' || c == 'E'},
			{"byte" + b + "=2-99", c == 's' || c == 'S'},
		} {
			want := api.ErrForm
			if k.ok {
				want = api.OK
			}
			if l, e := Ranges(k.text, 1000); e != want || len(l) > 0 != k.ok {
				t.Errorf("Ranges(%q, 1000) = %v, %v; want %v", k.text, l, e, want)
			}
		}
	}
}

func TestCountOfRanges(t *testing.T) { // P17.4
	several := func(n int, part string) string { return "bytes=" + strings.Repeat(part+",", n-1) + part }
	for _, n := range []int{1, 2, 15, 16} {
		if l, e := Ranges(several(n, "1-2"), 10); e != api.OK || len(l) != n {
			t.Errorf("%d parts: %v, %v", n, l, e)
		}
		noRanges(t, several(n, "10-"), 10, api.ErrNone)
		noRanges(t, several(n, "a"), 10, api.ErrForm)
	}
	for _, n := range []int{17, 18, 33, 100000} {
		noRanges(t, several(n, "1-2"), 10, api.ErrMany)
		noRanges(t, several(n, "-0"), 10, api.ErrMany) // ErrMany stands ahead of ErrNone
		noRanges(t, several(n, "1-2"), 0, api.ErrMany)
		noRanges(t, several(n, "1-2")+",2-1", 10, api.ErrForm) // and ErrForm ahead of both
		noRanges(t, several(n, "1-2")+",", 10, api.ErrForm)
		noRanges(t, several(n, "1-2"), -1, api.ErrForm)
		noRanges(t, several(n, "1-2"), longest+1, api.ErrForm)
	}
	isRanges(t, several(15, "-0")+",3-", 10, span(3, 9))
	noRanges(t, several(16, "-0")+",3-", 10, api.ErrMany)
}

func TestLengthsOfContents(t *testing.T) { // P17.4
	for _, length := range []int{-1, -2, -longest, math.MinInt, math.MinInt + 1, longest + 1, longest + 2, 1 << 41, math.MaxInt, math.MaxInt - 1} {
		for _, text := range []string{"bytes=0-1", "bytes=0-", "bytes=-1", "bytes=-0", "bytes=5-4", ""} {
			noRanges(t, text, length, api.ErrForm)
		}
	}
	for _, text := range []string{"0-", "0-0", "0-1", "-1", "-0", "-999999999999999999", "1-"} {
		noRanges(t, "bytes="+text, 0, api.ErrNone)
	}
	for _, text := range []string{"0-", "0-0", "0-1", "-1", "-2", "-999999999999999999"} {
		isRanges(t, "bytes="+text, 1, span(0, 0))
	}
	noRanges(t, "bytes=1-", 1, api.ErrNone)
	for _, length := range []int{longest - 1, longest} {
		last := length - 1
		lastText, lengthText := strconv.Itoa(last), strconv.Itoa(length)
		isRanges(t, "bytes=0-", length, span(0, last))
		isRanges(t, "bytes=-1", length, span(last, last))
		isRanges(t, "bytes="+lastText+"-", length, span(last, last))
		isRanges(t, "bytes=0-"+lastText, length, span(0, last))
		isRanges(t, "bytes=0-"+lengthText, length, span(0, last))
		isRanges(t, "bytes=-"+lengthText, length, span(0, last))
		isRanges(t, "bytes=-"+lastText, length, span(1, last))
		isRanges(t, "bytes=-999999999999999999", length, span(0, last))
		noRanges(t, "bytes="+lengthText+"-", length, api.ErrNone)
	}
}
