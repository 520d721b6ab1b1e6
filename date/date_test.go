package date

import (
	"math"
	"testing"

	"turnbuckle/api"
)

func TestExample(t *testing.T) {
	isNumberOf(t, Date{1994, 11, 6, 8, 49, 37}, 784111777)
	isTextOf(t, 784111777, "Sun, 06 Nov 1994 08:49:37 GMT")
	if w := Weekday(784111777); w != 6 {
		t.Errorf("Weekday = %d, want 6", w)
	}
}

func TestKnownDates(t *testing.T) { // P16.1
	for _, k := range []struct {
		date    Date
		number  int
		weekday int
	}{
		{Date{0, 1, 1, 0, 0, 0}, firstDate, 5},
		{Date{0, 1, 1, 0, 0, 1}, firstDate + 1, 5},
		{Date{0, 1, 2, 0, 0, 0}, firstDate + day, 6},
		{Date{0, 2, 29, 23, 59, 59}, firstDate + 60*day - 1, 1},
		{Date{0, 3, 1, 0, 0, 0}, firstDate + 60*day, 2},
		{Date{0, 12, 31, 23, 59, 59}, firstDate + 366*day - 1, 6},
		{Date{1, 1, 1, 0, 0, 0}, firstDate + 366*day, 0},
		{Date{100, 1, 1, 0, 0, 0}, firstDate + 36525*day, 4},
		{Date{400, 1, 1, 0, 0, 0}, firstDate + 146097*day, 5},
		{Date{1582, 10, 15, 0, 0, 0}, -12219292800, 4},
		{Date{1600, 1, 1, 0, 0, 0}, -11676096000, 5},
		{Date{1900, 1, 1, 0, 0, 0}, -2208988800, 0},
		{Date{1900, 2, 28, 23, 59, 59}, -2203891201, 2},
		{Date{1900, 3, 1, 0, 0, 0}, -2203891200, 3},
		{Date{1901, 12, 13, 20, 45, 52}, -1 << 31, 4},
		{Date{1968, 2, 29, 0, 0, 0}, -58060800, 3},
		{Date{1969, 12, 31, 0, 0, 0}, -day, 2},
		{Date{1969, 12, 31, 23, 59, 59}, -1, 2},
		{Date{1970, 1, 1, 0, 0, 0}, 0, 3},
		{Date{1970, 1, 1, 0, 0, 1}, 1, 3},
		{Date{1970, 1, 1, 0, 1, 0}, 60, 3},
		{Date{1970, 1, 1, 1, 0, 0}, 3600, 3},
		{Date{1970, 1, 1, 23, 59, 59}, day - 1, 3},
		{Date{1970, 1, 2, 0, 0, 0}, day, 4},
		{Date{1970, 2, 1, 0, 0, 0}, 31 * day, 6},
		{Date{1972, 2, 29, 0, 0, 0}, 68169600, 1},
		{Date{2000, 1, 1, 0, 0, 0}, 946684800, 5},
		{Date{2000, 2, 29, 0, 0, 0}, 951782400, 1},
		{Date{2000, 3, 1, 0, 0, 0}, 951868800, 2},
		{Date{2001, 9, 9, 1, 46, 40}, 1000000000, 6},
		{Date{2038, 1, 19, 3, 14, 7}, 1<<31 - 1, 1},
		{Date{2038, 1, 19, 3, 14, 8}, 1 << 31, 1},
		{Date{2106, 2, 7, 6, 28, 16}, 1 << 32, 6},
		{Date{9999, 12, 31, 0, 0, 0}, lastDate - day + 1, 4},
		{Date{9999, 12, 31, 23, 59, 58}, lastDate - 1, 4},
		{Date{9999, 12, 31, 23, 59, 59}, lastDate, 4},
	} {
		isNumberOf(t, k.date, k.number)
		if w := Weekday(k.number); w != k.weekday {
			t.Errorf("Weekday(%d) = %d, want %d", k.number, w, k.weekday)
		}
		isTextOf(t, k.number, plainText(k.date))
	}
}

func TestEachPartAlone(t *testing.T) { // P16.1
	right := Date{1994, 11, 6, 8, 49, 37}
	for i, part := range []struct {
		of       func(*Date) *int
		from, to int
	}{
		{func(d *Date) *int { return &d.Year }, 0, 9999},
		{func(d *Date) *int { return &d.Month }, 1, 12},
		{func(d *Date) *int { return &d.Day }, 1, 30},
		{func(d *Date) *int { return &d.Hour }, 0, 23},
		{func(d *Date) *int { return &d.Minute }, 0, 59},
		{func(d *Date) *int { return &d.Second }, 0, 59},
	} {
		d := right
		for _, n := range []int{part.from, part.from + 1, part.to - 1, part.to} {
			*part.of(&d) = n
			number, e := Number(d)
			if back, e2 := Of(number); e != api.OK || e2 != api.OK || back != d {
				t.Errorf("part %d: %v is %d, %v and back %v, %v", i, d, number, e, back, e2)
			}
		}
		for _, n := range []int{part.from - 1, part.from - 2, part.to + 1, part.to + 2, part.from + 1<<32, part.from - 1<<32, part.from + 1<<62,
			math.MinInt, math.MinInt + 1, math.MinInt + part.to, math.MaxInt, math.MaxInt - 1, -1, -part.to, 10000, 1 << 31, 1 << 16, 1 << 8} {
			*part.of(&d) = n
			if !plainDate(d) {
				isNoDate(t, d)
			}
		}
	}
}

func TestSeveralPartsWrong(t *testing.T) { // P16.1
	values := []int{math.MinInt, -1, 0, 1, 29, 60, 10000, math.MaxInt}
	count := len(values)
	for i := range count * count * count * count * count * count {
		pick := func() int {
			n := values[i%count]
			i /= count
			return n
		}
		d := Date{pick(), pick(), pick(), pick(), pick(), pick()}
		n, e := Number(d)
		if plainDate(d) != (e == api.OK) || e != api.OK && (n != 0 || e != api.ErrArg) {
			t.Fatalf("Number(%v) = %d, %v", d, n, e)
		}
	}
}

func TestDaysOfMonths(t *testing.T) { // P16.1
	for _, year := range []int{0, 1, 4, 100, 200, 300, 400, 1900, 1970, 1996, 2000, 2023, 2024, 2100, 9996, 9999} {
		for month := 1; month <= 12; month++ {
			last := plainLength(year, month)
			for _, d := range []int{0, last + 1, 32, -1, -last, math.MinInt, math.MaxInt} {
				isNoDate(t, Date{Year: year, Month: month, Day: d})
			}
			from, e := Number(Date{Year: year, Month: month, Day: 1})
			if e != api.OK {
				t.Errorf("%d-%d has no first day", year, month)
			}
			isNumberOf(t, Date{year, month, last, 23, 59, 59}, from+last*day-1)
			if year == 9999 && month == 12 {
				continue
			}
			if month < 12 {
				isNumberOf(t, Date{year, month + 1, 1, 0, 0, 0}, from+last*day)
			} else {
				isNumberOf(t, Date{year + 1, 1, 1, 0, 0, 0}, from+last*day)
			}
		}
	}
	for _, d := range []Date{{Year: 1900, Month: 2, Day: 29}, {Year: 2023, Month: 2, Day: 29}, {Year: 2100, Month: 2, Day: 29},
		{Year: 9999, Month: 2, Day: 29}, {Year: 2024, Month: 2, Day: 30}, {Year: 2000, Month: 2, Day: 30}, {Year: 0, Month: 2, Day: 30},
		{Year: 2023, Month: 4, Day: 31}, {Year: 2023, Month: 6, Day: 31}, {Year: 2023, Month: 9, Day: 31}, {Year: 2023, Month: 11, Day: 31}} {
		isNoDate(t, d)
	}
}

func TestNoNumbers(t *testing.T) { // P16.1, P16.2
	for _, n := range noNumbers() {
		if d, e := Of(n); d != (Date{}) || e != api.ErrArg {
			t.Errorf("Of(%d) = %v, %v; want none, ErrArg", n, d, e)
		}
		if w := Weekday(n); w != 0 {
			t.Errorf("Weekday(%d) = %d, want 0", n, w)
		}
		if s, e := Format(n); s != "" || e != api.ErrArg {
			t.Errorf("Format(%d) = %q, %v; want none, ErrArg", n, s, e)
		}
	}
}

func TestWeeks(t *testing.T) { // P16.1
	for n := -14 * day; n < 14*day; n += day / 24 {
		want := ((n+14*day)/day + 3) % 7 // a Thursday, as 14 days later
		if w := Weekday(n); w != want {
			t.Errorf("Weekday(%d) = %d, want %d", n, w, want)
		}
	}
	for d := range 7 {
		for _, second := range []int{0, 1, day - 1} {
			if w := Weekday(d*day + second); w != (3+d)%7 {
				t.Errorf("behind 1970: Weekday(%d) = %d", d*day+second, w)
			}
			if w := Weekday(-7*day + d*day + second); w != (3+d)%7 {
				t.Errorf("ahead of 1970: Weekday(%d) = %d", -7*day+d*day+second, w)
			}
			if w := Weekday(firstDate + d*day + second); w != (5+d)%7 {
				t.Errorf("at the beginning: Weekday(%d) = %d", firstDate+d*day+second, w)
			}
			if w := Weekday(lastDate - d*day - second); w != (4-d+7)%7 {
				t.Errorf("at the end: Weekday(%d) = %d", lastDate-d*day-second, w)
			}
		}
	}
}
