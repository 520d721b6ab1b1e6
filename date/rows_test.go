package date

import (
	"math/rand"
	"testing"

	"turnbuckle/api"
)

// TestAllDays goes over all days and holds them against the plain count.
func TestAllDays(t *testing.T) { // P16.1, P16.3, P16.4
	count := 0
	for p := range plainDays() {
		count++
		n, e := Number(p.date)
		if n != p.number || e != api.OK {
			t.Fatalf("Number(%v) = %d, %v; want %d", p.date, n, e, p.number)
		}
		if d, e := Of(p.number); d != p.date || e != api.OK {
			t.Fatalf("Of(%d) = %v, %v; want %v", p.number, d, e, p.date)
		}
		if w := Weekday(p.number); w != p.weekday {
			t.Fatalf("Weekday(%d) = %d, want %d", p.number, w, p.weekday)
		}
		evening := p.date
		evening.Hour, evening.Minute, evening.Second = 23, 59, 59
		if d, e := Of(p.number + day - 1); d != evening || e != api.OK {
			t.Fatalf("Of(%d) = %v, %v; want %v", p.number+day-1, d, e, evening)
		}
	}
	if count*day != lastDate-firstDate+1 {
		t.Errorf("there were %d days", count)
	}
}

// TestAllSeconds goes over all seconds of some days, below and above 1970.
func TestAllSeconds(t *testing.T) { // P16.1, P16.2, P16.3, P16.5
	for _, from := range []Date{{Year: 1969, Month: 12, Day: 31}, {Year: 1970, Month: 1, Day: 1}, {Year: 0, Month: 1, Day: 1}, {Year: 9999, Month: 12, Day: 31},
		{Year: 1900, Month: 2, Day: 28}, {Year: 2000, Month: 2, Day: 29}} {
		first, _ := Number(from)
		d := from
		for second := range day {
			d.Hour, d.Minute, d.Second = second/3600, second%3600/60, second%60
			n, e := Number(d)
			if n != first+second || e != api.OK {
				t.Fatalf("Number(%v) = %d, %v", d, n, e)
			}
			if back, e := Of(n); back != d || e != api.OK {
				t.Fatalf("Of(%d) = %v, %v; want %v", n, back, e, d)
			}
			if second%61 == 0 {
				isTextOf(t, n, plainText(d))
			}
		}
	}
}

// TestTexts goes over days all over the calendar, at a second that turns with them.
func TestTexts(t *testing.T) { // P16.2, P16.5
	row := rand.New(rand.NewSource(1))
	i := 0
	for p := range plainDays() {
		if i++; i%23 != 0 && p.date.Year%400 != 0 && p.date.Year != 1999 {
			continue
		}
		second := row.Intn(day)
		d := p.date
		d.Hour, d.Minute, d.Second = second/3600, second%3600/60, second%60
		text := plainText(d)
		if text[:3] != weekdayNames[p.weekday] {
			t.Fatalf("the plain text of %v has another day of the week than the plain count", d)
		}
		isTextOf(t, p.number+second, text)
		if t.Failed() {
			return
		}
	}
}

// TestDayLater asks what a day later is.
func TestDayLater(t *testing.T) { // P16.4
	row := rand.New(rand.NewSource(2))
	for range 200000 {
		n := firstDate + row.Intn(lastDate-firstDate+1-day)
		d, e := Of(n)
		later, e2 := Of(n + day)
		if e != api.OK || e2 != api.OK {
			t.Fatalf("Of(%d): %v, a day later %v", n, e, e2)
		}
		next := d
		next.Day++
		if next.Day > plainLength(d.Year, d.Month) {
			next.Month, next.Day = next.Month+1, 1
		}
		if next.Month > 12 {
			next.Year, next.Month = next.Year+1, 1
		}
		if later != next {
			t.Fatalf("a day behind %v is %v, want %v", d, later, next)
		}
		if number, e := Number(next); number != n+day || e != api.OK {
			t.Fatalf("Number(%v) = %d, %v; want %d", next, number, e, n+day)
		}
		if Weekday(n+day) != (Weekday(n)+1)%7 {
			t.Fatalf("Weekday(%d) = %d, and a day later %d", n, Weekday(n), Weekday(n+day))
		}
	}
}

// TestOrder asks that the later one of two dates has the greater number.
func TestOrder(t *testing.T) { // P16.3
	row := rand.New(rand.NewSource(3))
	pick := func() Date {
		d := Date{row.Intn(10000), 1 + row.Intn(12), 1, row.Intn(24), row.Intn(60), row.Intn(60)}
		d.Day += row.Intn(plainLength(d.Year, d.Month))
		return d
	}
	parts := func(d Date) [6]int { return [6]int{d.Year, d.Month, d.Day, d.Hour, d.Minute, d.Second} }
	for range 200000 {
		a, b := pick(), pick()
		// Dates that have their first parts in common tell the most of the parts behind.
		switch common := row.Intn(7); {
		case common > 4:
			b.Minute = a.Minute
			fallthrough
		case common > 3:
			b.Hour = a.Hour
			fallthrough
		case common > 1:
			b.Year, b.Month, b.Day = a.Year, a.Month, a.Day
		case common > 0:
			b.Year, b.Day = a.Year, min(b.Day, 28)
		}
		m, e := Number(a)
		n, e2 := Number(b)
		if e != api.OK || e2 != api.OK {
			t.Fatalf("Number of %v: %v, of %v: %v", a, e, b, e2)
		}
		want := 0
		for i, part := range parts(a) {
			if other := parts(b)[i]; want == 0 && part != other {
				want = 1
				if part < other {
					want = -1
				}
			}
		}
		if got := min(1, max(-1, m-n)); got != want {
			t.Fatalf("%v is %d and %v is %d", a, m, b, n)
		}
	}
}

// TestWrittenAnew parses texts that are no dates by one or two bytes.
func TestWrittenAnew(t *testing.T) { // P16.2, P16.5
	row := rand.New(rand.NewSource(4))
	letters := "0123456789 ,:+-.GMTgmtSunMonTueWedThuFriSatJanFebMarAprMayJunJulAugSepOctNovDec\x00\xff\xc3"
	taken := 0
	for range 200000 {
		n := firstDate + row.Intn(lastDate-firstDate+1)
		text, _ := Format(n)
		bytes := []byte(text)
		for range 1 + row.Intn(2) {
			bytes[row.Intn(len(bytes))] = letters[row.Intn(len(letters))]
		}
		s := string(bytes)
		d, ok := plainRead(s)
		if !ok {
			isNoText(t, s)
			continue
		}
		taken++
		n, e := Parse(s)
		if back, _ := Of(n); e != api.OK || back != d {
			t.Fatalf("Parse(%q) = %d, %v; want %v", s, n, e, d)
		}
	}
	if taken < 1000 {
		t.Errorf("only %d texts were taken", taken)
	}
}
