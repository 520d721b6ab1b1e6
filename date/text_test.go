package date

import (
	"fmt"
	"strings"
	"testing"

	"turnbuckle/api"
)

const right = "Sun, 06 Nov 1994 08:49:37 GMT"

func TestPartsInTexts(t *testing.T) { // P16.2
	for _, k := range []struct {
		date Date
		text string
	}{
		{Date{0, 1, 1, 0, 0, 0}, "Sat, 01 Jan 0000 00:00:00 GMT"},
		{Date{1, 2, 3, 4, 5, 6}, "Sat, 03 Feb 0001 04:05:06 GMT"},
		{Date{9, 9, 9, 9, 9, 9}, "Wed, 09 Sep 0009 09:09:09 GMT"},
		{Date{10, 10, 10, 10, 10, 10}, "Sun, 10 Oct 0010 10:10:10 GMT"},
		{Date{99, 12, 31, 23, 59, 59}, "Thu, 31 Dec 0099 23:59:59 GMT"},
		{Date{100, 1, 1, 0, 59, 0}, "Fri, 01 Jan 0100 00:59:00 GMT"},
		{Date{999, 12, 31, 12, 0, 59}, "Tue, 31 Dec 0999 12:00:59 GMT"},
		{Date{1000, 1, 1, 19, 1, 1}, "Wed, 01 Jan 1000 19:01:01 GMT"},
		{Date{1970, 1, 1, 0, 0, 0}, "Thu, 01 Jan 1970 00:00:00 GMT"},
		{Date{1969, 12, 31, 23, 59, 59}, "Wed, 31 Dec 1969 23:59:59 GMT"},
		{Date{2024, 2, 29, 1, 2, 3}, "Thu, 29 Feb 2024 01:02:03 GMT"},
		{Date{2026, 11, 20, 20, 30, 40}, "Fri, 20 Nov 2026 20:30:40 GMT"},
		{Date{9999, 12, 31, 23, 59, 59}, "Fri, 31 Dec 9999 23:59:59 GMT"},
	} {
		n, e := Number(k.date)
		if e != api.OK {
			t.Errorf("Number(%v): %v", k.date, e)
		}
		isTextOf(t, n, k.text)
	}
}

func TestNamesInTexts(t *testing.T) { // P16.2
	for i, name := range monthNames {
		n, _ := Number(Date{Year: 2023, Month: i + 1, Day: 1})
		if s, _ := Format(n); s[8:11] != name {
			t.Errorf("month %d is %q", i+1, s)
		}
	}
	for i, name := range weekdayNames {
		n := (4 + i) * day // from Monday, 5 January 1970, on
		isTextOf(t, n, fmt.Sprintf("%s, %02d Jan 1970 00:00:00 GMT", name, 5+i))
	}
}

func TestLengthsOfTexts(t *testing.T) { // P16.2
	for i := range right {
		isNoText(t, right[:i])
		isNoText(t, right[i+1:])
		isNoText(t, right[:i]+right[i+1:])
		for _, more := range []string{" ", "0", "1", ",", ":", "a", "\x00", "\n", "\xff"} {
			isNoText(t, right[:i]+more+right[i:])
		}
	}
	for _, more := range []string{" ", "\n", "\r\n", "\x00", "T", " GMT", right, strings.Repeat(" ", 29)} {
		isNoText(t, right+more)
		isNoText(t, more+right)
	}
	isNoText(t, "")
	isNoText(t, strings.Repeat(" ", 29))
	isNoText(t, strings.Repeat("0", 29))
	isNoText(t, strings.Repeat("\xff", 29))
	isNoText(t, strings.Repeat("\x00", 29))
}

// TestEachByte changes each byte of right texts to each byte, which leads to the text of a date only where a plain reader
// finds one.
func TestEachByte(t *testing.T) { // P16.2
	for _, text := range []string{right, "Sat, 01 Jan 0000 00:00:00 GMT", "Fri, 31 Dec 9999 23:59:59 GMT", "Thu, 29 Feb 2024 01:02:03 GMT",
		"Thu, 01 Jan 1970 00:00:00 GMT", "Tue, 19 Jun 2001 19:19:19 GMT", "Mon, 31 Mar 1952 20:00:00 GMT"} {
		taken := 0
		for i := range text {
			for b := range 256 {
				s := text[:i] + string([]byte{byte(b)}) + text[i+1:]
				d, ok := plainRead(s)
				if !ok {
					isNoText(t, s)
					continue
				}
				n, e := Parse(s)
				if back, _ := Of(n); e != api.OK || back != d {
					t.Errorf("Parse(%q) = %d, %v; want %v", s, n, e, d)
				}
				taken++
			}
		}
		if taken < 29+10+10 { // the text itself, and other digits of its minutes and seconds
			t.Errorf("%q: only %d texts were taken", text, taken)
		}
	}
}

func TestWrongTexts(t *testing.T) { // P16.2
	for _, s := range []string{
		// another day of the week, or none
		"Mon, 06 Nov 1994 08:49:37 GMT", "Sat, 06 Nov 1994 08:49:37 GMT", "Xxx, 06 Nov 1994 08:49:37 GMT", "   , 06 Nov 1994 08:49:37 GMT",
		// names in other letters
		"sun, 06 Nov 1994 08:49:37 GMT", "SUN, 06 Nov 1994 08:49:37 GMT", "Sun, 06 nov 1994 08:49:37 GMT", "Sun, 06 NOV 1994 08:49:37 GMT",
		"Sun, 06 Nov 1994 08:49:37 gmt", "Sun, 06 Nov 1994 08:49:37 Gmt", "Sun, 06 Nov 1994 08:49:37 UTC", "Sun, 06 Nov 1994 08:49:37 EST",
		"Sun, 06 Nox 1994 08:49:37 GMT", "Sun, 06 ovN 1994 08:49:37 GMT", "Sun, 06 vDe 1994 08:49:37 GMT", "Sun, 06 anF 1994 08:49:37 GMT",
		// blanks
		"Sun,06 Nov 1994 08:49:37 GMT", "Sun,  06 Nov 1994 08:49:37 GMT", "Sun, 06  Nov 1994 08:49:37 GMT", "Sun, 06Nov 1994 08:49:37 GMT",
		"Sun, 06 Nov1994 08:49:37 GMT", "Sun, 06 Nov  1994 08:49:37 GMT", "Sun, 06 Nov 199408:49:37 GMT", "Sun, 06 Nov 1994  08:49:37 GMT",
		"Sun, 06 Nov 1994 08:49:37GMT", "Sun, 06 Nov 1994 08:49:37  GMT", "Sun 06 Nov 1994 08:49:37 GMT", "Sun , 6 Nov 1994 08:49:37 GMT",
		"Sun,\t06 Nov 1994 08:49:37 GMT", " Sun, 6 Nov 1994 08:49:37 GMT", "Sun, 06 Nov 1994 8:49:37 GMT ",
		// fewer or more digits, and what is none
		"Sun, 6 Nov 1994 08:49:37 GMT", "Sun,  6 Nov 1994 08:49:37 GMT", "Sun, 006 Nov 1994 8:49:37 GMT", "Sun, 06 Nov 94 08:49:37 GMT",
		"Sun, 06 Nov 1994 8:49:37 GMT", "Sun, 06 Nov 1994  8:49:37 GMT", "Sun, 06 Nov 1994 08:49 GMT", "Sun, 0a Nov 1994 08:49:37 GMT",
		"Sun, 06 Nov 199x 08:49:37 GMT", "Sun, 06 Nov 1994 0x:49:37 GMT", "Sun, 06 Nov 1994 08:4x:37 GMT", "Sun, 06 Nov 1994 08:49:3x GMT",
		// signs
		"Sun, +6 Nov 1994 08:49:37 GMT", "Sun, -6 Nov 1994 08:49:37 GMT", "Sun, 06 Nov +994 08:49:37 GMT", "Sun, 06 Nov -994 08:49:37 GMT",
		"Sun, 06 Nov 1994 +8:49:37 GMT", "Sun, 06 Nov 1994 08:+9:37 GMT", "Sun, 06 Nov 1994 08:49:+7 GMT", "Sat, 01 Jan -000 00:00:00 GMT",
		"Sat, 01 Jan +000 00:00:00 GMT", "Sat, 01 Jan 0000 -0:00:00 GMT", "Sat, 01 Jan 0000 00:-0:00 GMT", "Sat, 01 Jan 0000 00:00:-0 GMT",
		// bytes whose distances from '0' would make the same number as digits
		"Sun, /@ Nov 1994 08:49:37 GMT", "Sun, 06 Nov 18\xc24 08:49:37 GMT", "Sun, 06 Nov 1994 /B:49:37 GMT", "Sun, 06 Nov 1994 08:3C:37 GMT",
		"Sun, 06 Nov 1994 08:49:2A GMT", "Sun, 06 Nov 198> 08:49:37 GMT", "Sun, 06 Nov 0C94 08:49:37 GMT",
		// no day, no time
		"Sun, 00 Nov 1994 08:49:37 GMT", "Mon, 00 Nov 1994 08:49:37 GMT", "Thu, 31 Nov 1994 08:49:37 GMT", "Fri, 32 Dec 1994 08:49:37 GMT",
		"Sun, 06 Nov 1994 24:00:00 GMT", "Sun, 06 Nov 1994 24:49:37 GMT", "Mon, 07 Nov 1994 24:00:00 GMT", "Sun, 06 Nov 1994 08:60:37 GMT",
		"Sun, 06 Nov 1994 08:49:60 GMT", "Sat, 31 Dec 2016 23:59:60 GMT", "Sun, 06 Nov 1994 99:99:99 GMT", "Sun, 99 Nov 1994 08:49:37 GMT",
		// no leap day
		"Thu, 29 Feb 1900 00:00:00 GMT", "Wed, 29 Feb 2023 00:00:00 GMT", "Mon, 29 Feb 2100 00:00:00 GMT", "Wed, 01 Feb 2023 24:00:00 GMT",
		"Fri, 30 Feb 2024 00:00:00 GMT", "Wed, 30 Feb 2000 00:00:00 GMT", "Mon, 29 Feb 9999 00:00:00 GMT",
		// other forms of dates
		"Sunday, 06-Nov-94 08:49:37 GMT", "Sun Nov  6 08:49:37 1994", "Sun, 06-Nov-1994 08:49:37 GMT", "1994-11-06T08:49:37Z", "784111777",
		"Sun, Nov 06 1994 08:49:37 GMT", "06 Nov 1994 08:49:37 GMT", "Sun, 06 Nov 1994 08.49.37 GMT", "Sun, 06 Nov 1994 08:49:37 +00",
		"Sun; 06 Nov 1994 08:49:37 GMT", "Sun, 06 Nov 1994 08:49:37 GMT\n", "Sun, 06 November 1994 08:49:37",
		"\"Sun, 06 Nov 1994 08:49:37 GM\"", "Sun, 06 Nov 10000 08:49:37 GMT", "Sat, 01 Jan 10000 00:00:0 GMT",
		// letters of more than one byte
		"Sun, 06 Nov 1994 08:49:3\u0663 GMT", "Sun, 0\u0666 Nov 1994 08:49:37 GMT", "Sun, 06 N\u00f6v 1994 08:49:37 GMT", "\u0405un, 06 Nov 1994 08:49:37 GMT",
		"Sun, 06 Nov 1994 08:49:37 GM\u0422", "S\u00fc, 06 Nov 1994 08:49:37 GMT", "Sun,\u00a006 Nov 1994 08:49:37 GMT", "Sun,\u00a06 Nov 1994 08:49:37 GMT",
		"Sun, \uff10\uff16 Nov 1994 08:49 GMT",
	} {
		isNoText(t, s)
	}
}

// TestOwnWeekday takes each day with each name of a day of the week: only its own is right.
func TestOwnWeekday(t *testing.T) { // P16.2
	for _, n := range []int{firstDate, -1, 0, 784111777, 951782400, lastDate} {
		text, _ := Format(n)
		for i, name := range weekdayNames {
			s := name + text[3:]
			if i == Weekday(n) {
				isTextOf(t, n, s)
			} else {
				isNoText(t, s)
			}
		}
	}
}

// TestTwoDigits takes each two bytes of digits in each part that has two of them.
func TestTwoDigits(t *testing.T) { // P16.2
	for _, at := range []int{5, 14, 17, 20, 23} {
		for i := range 100 {
			for _, name := range weekdayNames {
				s := name + right[3:at] + fmt.Sprintf("%02d", i) + right[at+2:]
				n, e := Parse(s)
				d, ok := plainRead(s)
				if back, _ := Of(n); ok != (e == api.OK) || ok && back != d || !ok && (n != 0 || e != api.ErrDate) {
					t.Errorf("Parse(%q) = %d, %v", s, n, e)
				}
			}
		}
	}
}
