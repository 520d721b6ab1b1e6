package date

import (
	"fmt"
	"iter"
	"math"
	"regexp"
	"strconv"
	"strings"
	"testing"

	"turnbuckle/api"
)

const (
	day       = 86400
	firstDate = -62167219200
	lastDate  = 253402300799
)

// plainDay is a day of the plain count: its date at 0 o'clock, its number, and its day of the week.
type plainDay struct {
	date    Date
	number  int
	weekday int
}

// weekdayNames and monthNames are what the document calls them.
var (
	weekdayNames = strings.Fields("Mon Tue Wed Thu Fri Sat Sun")
	monthNames   = strings.Fields("Jan Feb Mar Apr May Jun Jul Aug Sep Oct Nov Dec")
)

// plainLeap tells of a leap day, as the document says it.
func plainLeap(year int) bool {
	switch {
	case year%400 == 0:
		return true
	case year%100 == 0:
		return false
	}
	return year%4 == 0
}

// plainLength is how many days a month has.
func plainLength(year, month int) int {
	switch month {
	case 2:
		if plainLeap(year) {
			return 29
		}
		return 28
	case 4, 6, 9, 11:
		return 30
	}
	return 31
}

// plainDays are all days, one by one: the first one is a Saturday.
func plainDays() iter.Seq[plainDay] {
	return func(yield func(plainDay) bool) {
		number, weekday := firstDate, 5
		for year := 0; year <= 9999; year++ {
			for month := 1; month <= 12; month++ {
				for d := 1; d <= plainLength(year, month); d++ {
					if !yield(plainDay{Date{Year: year, Month: month, Day: d}, number, weekday}) {
						return
					}
					number += day
					weekday = (weekday + 1) % 7
				}
			}
		}
	}
}

// plainDate tells whether there is such a date.
func plainDate(d Date) bool {
	within := func(n, from, to int) bool { return from <= n && n <= to }
	return within(d.Year, 0, 9999) && within(d.Month, 1, 12) && within(d.Day, 1, plainLength(d.Year, d.Month)) &&
		within(d.Hour, 0, 23) && within(d.Minute, 0, 59) && within(d.Second, 0, 59)
}

// plainWeekday is a day's day of the week by a rule of its own: months ahead of March are of the year before, and each
// month has its shift (Sakamoto).
func plainWeekday(year, month, d int) int {
	shift := []int{0, 3, 2, 5, 0, 3, 5, 1, 4, 6, 2, 4}[month-1]
	if month < 3 {
		year--
	}
	year += 400 // the calendar is the same 400 years later, and nothing is below 0
	return (year + year/4 - year/100 + year/400 + shift + d + 6) % 7
}

// plainText is a date's text.
func plainText(d Date) string {
	return fmt.Sprintf("%s, %02d %s %04d %02d:%02d:%02d GMT", weekdayNames[plainWeekday(d.Year, d.Month, d.Day)],
		d.Day, monthNames[d.Month-1], d.Year, d.Hour, d.Minute, d.Second)
}

var form = regexp.MustCompile(`^(Mon|Tue|Wed|Thu|Fri|Sat|Sun), ([0-9]{2}) (` + strings.Join(monthNames, "|") +
	`) ([0-9]{4}) ([0-9]{2}):([0-9]{2}):([0-9]{2}) GMT$`)

// plainRead is the date of a text, if it is one of a date.
func plainRead(s string) (Date, bool) {
	parts := form.FindStringSubmatch(s)
	if len(s) != 29 || parts == nil {
		return Date{}, false
	}
	number := func(i int) int {
		n, _ := strconv.Atoi(parts[i])
		return n
	}
	d := Date{Year: number(4), Day: number(2), Hour: number(5), Minute: number(6), Second: number(7)}
	for i, name := range monthNames {
		if name == parts[3] {
			d.Month = i + 1
		}
	}
	if !plainDate(d) || weekdayNames[plainWeekday(d.Year, d.Month, d.Day)] != parts[1] {
		return Date{}, false
	}
	return d, true
}

// noNumbers are numbers of no date.
func noNumbers() []int {
	return []int{firstDate - 1, firstDate - 2, firstDate - day, lastDate + 1, lastDate + 2, lastDate + day, 2 * firstDate, 2 * lastDate,
		1 << 62, -1 << 62, math.MinInt, math.MinInt + 1, math.MaxInt, math.MaxInt - 1, math.MinInt - firstDate, math.MaxInt + firstDate,
		firstDate - 1<<32, lastDate + 1<<32, math.MaxInt / day, math.MinInt / day, math.MaxInt - day, math.MinInt + day}
}

// isNumberOf asks a date's number, and the way back.
func isNumberOf(t *testing.T, d Date, want int) {
	t.Helper()
	if n, e := Number(d); n != want || e != api.OK {
		t.Errorf("Number(%v) = %d, %v; want %d", d, n, e, want)
	}
	if back, e := Of(want); back != d || e != api.OK {
		t.Errorf("Of(%d) = %v, %v; want %v", want, back, e, d)
	}
}

// isNoDate asks for the refusal.
func isNoDate(t *testing.T, d Date) {
	t.Helper()
	if n, e := Number(d); n != 0 || e != api.ErrArg {
		t.Errorf("Number(%v) = %d, %v; want 0, ErrArg", d, n, e)
	}
}

// isTextOf asks a number's text, and the way back.
func isTextOf(t *testing.T, n int, want string) {
	t.Helper()
	if s, e := Format(n); s != want || e != api.OK {
		t.Errorf("Format(%d) = %q, %v; want %q", n, s, e, want)
	}
	if back, e := Parse(want); back != n || e != api.OK {
		t.Errorf("Parse(%q) = %d, %v; want %d", want, back, e, n)
	}
}

// isNoText asks for the refusal.
func isNoText(t *testing.T, s string) {
	t.Helper()
	if n, e := Parse(s); n != 0 || e != api.ErrDate {
		t.Errorf("Parse(%q) = %d, %v; want 0, ErrDate", s, n, e)
	}
}
