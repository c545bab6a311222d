package ops

import (
	"computus/api"
	"computus/civil"
	"computus/comp"
	"computus/day"
	"computus/dec"
	"computus/num"
	"computus/stamp"
)

const (
	secondPlaces = 6 // of seconds that are told by microseconds
	milliPlaces  = 3 // of milliseconds that are
	yearMonths   = 12
	epochMicro   = 946684800 * api.Micro // from January 1, 1970 to January 1, 2000
	yearSeconds  = 31557600              // of every year of an interval
	monthSeconds = 2592000               // of every month of one
	daySeconds   = api.DayMicro / api.Micro
)

// ofInstant is a field of an instant by the clocks of a zone; of the instant
// itself, if it counts from one.
func ofInstant(f field, z comp.Table, t api.Stamp) (dec.Dec, api.Errno) {
	if f == epoch {
		return ofStamp(f, t)
	}
	l, e := stamp.Local(z, t)
	if e != api.OK {
		return dec.Dec{}, e
	}
	if f != timezone {
		return ofStamp(f, l)
	}
	x, e := stamp.Offset(z, t)
	if e != api.OK {
		return dec.Dec{}, e
	}
	return whole(x.Off), api.OK
}

// ofStamp is a field of a stamp that has no Inf.
func ofStamp(f field, l api.Stamp) (dec.Dec, api.Errno) {
	if f == epoch {
		n, e := num.Add(l.U, epochMicro)
		if e != api.OK {
			return dec.Dec{}, e
		}
		return dec.Dec{N: n, Scale: secondPlaces}, api.OK
	}
	d, us, _ := day.Of(l)
	if f <= hours {
		return ofTime(f, us), api.OK
	}
	return whole(ofDate(f, d)), api.OK
}

// ofTime is a field of microseconds of a day or an interval, cut towards nought.
func ofTime(f field, us int64) dec.Dec {
	switch f {
	case hours:
		return whole(us / hourMicro)
	case minutes:
		return whole(us / minuteMicro % sixty)
	case seconds:
		return dec.Dec{N: us % minuteMicro, Scale: secondPlaces}
	case milliseconds:
		return dec.Dec{N: us % minuteMicro, Scale: milliPlaces}
	}
	return whole(us % minuteMicro)
}

// ofDate is a field of a date that has parts.
func ofDate(f field, d api.Date) int64 {
	y, m, n, _ := day.Parts(d)
	switch f {
	case days:
		return n
	case months:
		return m
	case quarters:
		return quarter(m)
	case weeks:
		_, week, _ := civil.Week(d.D)
		return week
	case isoyear:
		year, _, _ := civil.Week(d.D)
		return ofYear(years, year)
	case dow:
		return civil.Weekday(d.D)
	case isodow:
		return weekday(d)
	case doy:
		gone, _ := civil.YearDay(d.D)
		return gone
	}
	return ofYear(f, y)
}

// ofYear is a year as it is told, without a year 0, or which one of so many
// years it is of.
func ofYear(f field, y int64) int64 {
	switch f {
	case decades:
		n, _ := num.Div(y, decadeYears)
		return n
	case centuries:
		return ordinal(y, centuryYears)
	case millennia:
		return ordinal(y, millenniumYears)
	}
	if y < 1 {
		return y - 1
	}
	return y
}

// ordinal is which one of so many years a year is of: 1 begins with the year 1,
// and -1 ends ahead of it.
func ordinal(y, many int64) int64 {
	if y > 0 {
		return (y + many - 1) / many
	}
	return -((many - y) / many)
}

// ofSpan is a field of an interval that has no Inf, cut towards nought.
func ofSpan(f field, s api.Span) (dec.Dec, api.Errno) {
	switch f {
	case epoch:
		return inSeconds(s.M/yearMonths*yearSeconds+s.M%yearMonths*monthSeconds+s.D*daySeconds, s.U)
	case days:
		return whole(s.D), api.OK
	case months, quarters, years, decades, centuries, millennia:
		return whole(ofMonths(f, s.M)), api.OK
	}
	return ofTime(f, s.U), api.OK
}

// ofMonths is a field of an interval's months.
func ofMonths(f field, m int64) int64 {
	switch f {
	case months:
		return m % yearMonths
	case quarters:
		return m%yearMonths/quarterMonths + 1
	case decades:
		return m / (yearMonths * decadeYears)
	case centuries:
		return m / (yearMonths * centuryYears)
	case millennia:
		return m / (yearMonths * millenniumYears)
	}
	return m / yearMonths
}

// inSeconds is so many seconds and microseconds, as one number.
func inSeconds(sec, us int64) (dec.Dec, api.Errno) {
	sec, us = sec+us/api.Micro, us%api.Micro
	// Both are given one sign, so that seconds alone are too many only where
	// all of it is.
	if sec > 0 && us < 0 {
		sec, us = sec-1, us+api.Micro
	}
	if sec < 0 && us > 0 {
		sec, us = sec+1, us-api.Micro
	}
	n, e := num.Mul(sec, api.Micro)
	if e == api.OK {
		n, e = num.Add(n, us)
	}
	if e != api.OK {
		return dec.Dec{}, e
	}
	return dec.Dec{N: n, Scale: secondPlaces}, api.OK
}

// whole is a number without places.
func whole(n int64) dec.Dec {
	return dec.Dec{N: n}
}
