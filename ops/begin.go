package ops

import (
	"computus/api"
	"computus/civil"
	"computus/day"
	"computus/num"
)

const (
	sixty           = 60 // seconds of a minute, and minutes of an hour
	minuteMicro     = sixty * api.Micro
	hourMicro       = sixty * minuteMicro
	weekDays        = 7
	quarterMonths   = 3
	decadeYears     = 10
	centuryYears    = 100
	millenniumYears = 1000
)

// lengths is how many microseconds the fields are that divide a day.
var lengths = [...]int64{microseconds: 1, milliseconds: 1000, seconds: api.Micro, minutes: minuteMicro, hours: hourMicro, days: api.DayMicro}

// begin is the last stamp not behind l, which can be, at which a length of time
// begins.
func begin(f field, l api.Stamp) (api.Stamp, api.Errno) {
	if l.Inf != 0 {
		return l, api.OK
	}
	d, us, _ := day.Of(l)
	if f <= days {
		return day.Stamp(d, us-us%lengths[f])
	}
	first, e := firstDay(f, d)
	if e != api.OK {
		return api.Stamp{}, e
	}
	return day.Start(first)
}

// firstDay is that of the week, month or years of a date that has parts.
func firstDay(f field, d api.Date) (api.Date, api.Errno) {
	y, m, _, _ := day.Parts(d)
	switch f {
	case weeks:
		return day.Add(d, 1-weekday(d))
	case months:
		return day.Make(y, m, 1)
	case quarters:
		return day.Make(y, quarterMonths*(quarter(m)-1)+1, 1)
	case decades:
		return day.Make(firstYear(y, 0, decadeYears), 1, 1)
	case centuries:
		return day.Make(firstYear(y, 1, centuryYears), 1, 1)
	case millennia:
		return day.Make(firstYear(y, 1, millenniumYears), 1, 1)
	}
	return day.Make(y, 1, 1)
}

// firstYear is that of so many years, of which some begin with a year.
func firstYear(y, with, many int64) int64 {
	gone, _ := num.Mod(y-with, many)
	return y - gone
}

// weekday is 1 on Mondays, 7 on Sundays.
func weekday(d api.Date) int64 {
	if n := civil.Weekday(d.D); n != 0 {
		return n
	}
	return weekDays
}

// quarter is which one of the year a month is of, from 1 on.
func quarter(m int64) int64 {
	return (m-1)/quarterMonths + 1
}
