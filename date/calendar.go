package date

const (
	lastYear     = 9999
	monthsOfYear = 12

	daysTo1970   = 719528  // from the first day of the year 0
	daysTo10000  = 3652425 // from the same day
	firstWeekday = 5       // that day is a Saturday
)

// calendarMonth is a month's name, and its days in a year without a leap day.
type calendarMonth struct {
	name string
	days int
}

// months are the months of a year: an array, so that whoever asks has one of his own.
func months() [monthsOfYear]calendarMonth {
	return [monthsOfYear]calendarMonth{
		{"Jan", 31}, {"Feb", 28}, {"Mar", 31}, {"Apr", 30}, {"May", 31}, {"Jun", 30},
		{"Jul", 31}, {"Aug", 31}, {"Sep", 30}, {"Oct", 31}, {"Nov", 30}, {"Dec", 31},
	}
}

// hasLeapDay tells whether February has 29 days in that year.
func hasLeapDay(year int) bool {
	return year%4 == 0 && (year%100 != 0 || year%400 == 0)
}

// daysOfMonth is how many days a month has, from 1 (January) on.
func daysOfMonth(year, month int) int {
	days := months()[month-1].days
	if month == 2 && hasLeapDay(year) {
		days++
	}
	return days
}

// daysToYear is how many days lie between the first one of the year 0 and the first one of that year.
func daysToYear(year int) int {
	// Rounding up counts the year 0, which has a leap day, as soon as it is over.
	leapDays := (year+3)/4 - (year+99)/100 + (year+399)/400
	return year*365 + leapDays
}

// daysToMonth is how many days of the year lie ahead of that month.
func daysToMonth(year, month int) int {
	days := 0
	for ahead := 1; ahead < month; ahead++ {
		days += daysOfMonth(year, ahead)
	}
	return days
}

// yearOf is the year of the day that has so many ahead of it, from the first day of the year 0 on.
func yearOf(days int) int {
	year := days / 366 // never too late a year, as none has more days
	for daysToYear(year+1) <= days {
		year++
	}
	return year
}

// monthOf is the month of the day that has so many ahead of it in its year.
func monthOf(year, days int) int {
	month := 1
	for days >= daysOfMonth(year, month) {
		days -= daysOfMonth(year, month)
		month++
	}
	return month
}
