package date

import (
	"strconv"
	"strings"

	"turnbuckle/api"
)

// pattern is a date's text: each part of another one stands where this one has it.
const pattern = "Sun, 06 Nov 1994 08:49:37 GMT"

// Format is the text of a number.
func Format(n int) (string, api.Errno) {
	d, e := Of(n)
	if e != api.OK {
		return "", e
	}
	day := weekdayName(Weekday(n)) + ", " + digits(d.Day, 2) + " " + months()[d.Month-1].name + " " + digits(d.Year, 4)
	return day + " " + digits(d.Hour, 2) + ":" + digits(d.Minute, 2) + ":" + digits(d.Second, 2) + " GMT", api.OK
}

// Parse is the number of a text.
func Parse(s string) (int, api.Errno) {
	if len(s) != len(pattern) {
		return 0, api.ErrDate
	}
	n, e := Number(Date{
		Year:   value(s[12:16]),
		Month:  monthNamed(s[8:11]),
		Day:    value(s[5:7]),
		Hour:   value(s[17:19]),
		Minute: value(s[20:22]),
		Second: value(s[23:25]),
	})
	if e != api.OK {
		return 0, api.ErrDate
	}
	// A date has just one text, so what was not looked at above is right if s is that one.
	if text, _ := Format(n); text != s {
		return 0, api.ErrDate
	}
	return n, api.OK
}

// weekdayName is the name of a day of the week, from 0 (Monday) on.
func weekdayName(day int) string {
	return [7]string{"Mon", "Tue", "Wed", "Thu", "Fri", "Sat", "Sun"}[day]
}

// monthNamed is the month of that name, from 1 on, and 0 where there is none.
func monthNamed(name string) int {
	for i, m := range months() {
		if m.name == name {
			return i + 1
		}
	}
	return 0
}

// digits are a number's digits, with as many 0 ahead as the width asks for.
func digits(n, width int) string {
	s := strconv.Itoa(n)
	return strings.Repeat("0", width-len(s)) + s
}

// value is the number of some digits; of other bytes it is some number, of which these are not the digits.
func value(s string) int {
	n := 0
	for i := range len(s) {
		n = n*10 + int(s[i]) - '0'
	}
	return n
}
