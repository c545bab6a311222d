// Package civil is layer 2: days of the calendar. See shared/doc/02-civil.md.
package civil

import "computus/api"

const (
	yearMonths  = 12
	weekDays    = 7
	cycleYears  = 400 // after which the leap years come again
	cycleDays   = 365*cycleYears + 97
	baseYear    = -12 * cycleYears // a cycle's first year, ahead of all that can be: what counts from it is not below 0
	baseDay     = -17 * cycleDays  // its January 1, as 2000 is 17 cycles on
	monthsCanBe = (api.LastYear - api.FirstYear + 1) * yearMonths
)

// lengths are those of the months of a year that is no leap year.
var lengths = [yearMonths]int64{31, 28, 31, 30, 31, 30, 31, 31, 30, 31, 30, 31}

// Leap: has the year 366 days?
func Leap(y int64) bool {
	return y%4 == 0 && y%100 != 0 || y%400 == 0
}

// Len is how many days a month has, 0 of none.
func Len(y, m int64) int64 {
	if m < 1 || m > yearMonths {
		return 0
	}
	if m == 2 && Leap(y) {
		return 29
	}
	return lengths[m-1]
}

// Right: can the date be?
func Right(y, m, d int64) bool {
	return y >= api.FirstYear && y <= api.LastYear && d >= 1 && d <= Len(y, m)
}

// Days is the day of a date.
func Days(y, m, d int64) (int64, api.Errno) {
	if !Right(y, m, d) {
		return 0, api.ErrRange
	}
	n := newYear(y)
	for gone := range m - 1 {
		n += Len(y, gone+1)
	}
	return n + d - 1, api.OK
}

// Date is the year, month and day of a day.
func Date(n int64) (int64, int64, int64, api.Errno) {
	if !canBe(n) {
		return 0, 0, 0, api.ErrRange
	}
	y, m := yearOf(n), int64(1)
	rest := n - newYear(y)
	for range yearMonths - 1 {
		if rest < Len(y, m) {
			break
		}
		rest -= Len(y, m)
		m++
	}
	return y, m, rest + 1, api.OK
}

// Weekday is 0 on Sundays.
func Weekday(n int64) int64 {
	const first = 6 // day 0 is a Saturday
	return (n%weekDays + weekDays + first) % weekDays
}

// YearDay is 1 on January 1.
func YearDay(n int64) (int64, api.Errno) {
	if !canBe(n) {
		return 0, api.ErrRange
	}
	return n - newYear(yearOf(n)) + 1, api.OK
}

// Week is the year that the week of n belongs to, and which one of it that is.
func Week(n int64) (int64, int64, api.Errno) {
	if !canBe(n) {
		return 0, 0, api.ErrRange
	}
	sinceMonday := (Weekday(n) + weekDays - 1) % weekDays
	thursday := n - sinceMonday + 3
	y := yearOf(thursday)
	return y, (thursday-newYear(y))/weekDays + 1, api.OK
}

// Shift is the day so many months on, of the same day of the month or its last.
func Shift(n, months int64) (int64, api.Errno) {
	y, m, d, e := Date(n)
	if e != api.OK {
		return 0, e
	}
	// So far away no month can be, and the sum below might go round.
	if months <= -monthsCanBe || months >= monthsCanBe {
		return 0, api.ErrRange
	}
	at := (y-api.FirstYear)*yearMonths + m - 1 + months
	// A month behind the last one is refused by Days.
	if at < 0 {
		return 0, api.ErrRange
	}
	y, m = api.FirstYear+at/yearMonths, at%yearMonths+1
	return Days(y, m, min(d, Len(y, m)))
}

// First is the least day that can be.
func First() int64 {
	return newYear(api.FirstYear)
}

// Last is the greatest day that can be.
func Last() int64 {
	return newYear(api.LastYear+1) - 1
}

func canBe(n int64) bool {
	return n >= First() && n <= Last()
}

// newYear is the day of January 1, of a year that can be or is just beside.
func newYear(y int64) int64 {
	gone := y - baseYear
	leaps := (gone+3)/4 - (gone+99)/100 + (gone+399)/400
	return baseDay + 365*gone + leaps
}

// yearOf is the year of a day that can be or is at most a week away from one.
func yearOf(n int64) int64 {
	// By the mean length of a year, which is wrong by one year at most.
	y := baseYear + (n-baseDay)*cycleYears/cycleDays
	if n < newYear(y) {
		return y - 1
	}
	if n >= newYear(y+1) {
		return y + 1
	}
	return y
}
