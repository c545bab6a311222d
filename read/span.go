package read

import (
	"cmp"
	"slices"
	"strings"

	"computus/api"
	"computus/clock"
	"computus/num"
	"computus/span"
	"computus/word"
)

const mostFraction = 6 // digits behind a point: a microsecond is the last of them

// unit is what a number of an interval counts.
type unit int

const (
	years unit = iota
	months
	weeks
	days
	hours
	minutes
	seconds
	micros
)

// sizes is how many months, days or microseconds one of each unit is.
var sizes = [...]int64{12, 1, 7, 1, 3600 * api.Micro, 60 * api.Micro, api.Micro, 1}

// part is which part of an interval a unit is counted in: months, days, microseconds.
func (u unit) part() int {
	switch {
	case u <= months:
		return 0
	case u <= days:
		return 1
	}
	return 2
}

// amount is a number of an interval, and what it counts.
type amount struct {
	n     int64
	fault api.Errno // of a number that is no int64
	unit  unit
}

// interval is what a text tells of one, number by number; back: the other way.
type interval struct {
	amounts list[amount]
	back    bool
}

// span is all numbers of an interval, summed up one behind the other.
func (x interval) span() (api.Span, api.Errno) {
	var sums [3]int64
	for _, a := range x.amounts {
		n, wide := num.Mul(a.n, sizes[a.unit])
		sum, far := num.Add(sums[a.unit.part()], n)
		if e := cmp.Or(a.fault, wide, far); e != api.OK {
			return api.Span{}, e
		}
		sums[a.unit.part()] = sum
	}
	s, e := span.Make(sums[0], sums[1], sums[2])
	if e != api.OK || !x.back {
		return s, e
	}
	return span.Neg(s)
}

// bySQL reads years and months, days, and a time, each with a sign.
type bySQL struct{}

func (bySQL) read(l list[string]) any {
	if len(l) != 3 {
		return nil
	}
	var amounts list[amount]
	for i, w := range l {
		sign, text := cutSign(w)
		if text == w {
			return nil
		}
		var told list[amount]
		var ok bool
		switch i {
		case 0:
			told, ok = yearsAndMonths(sign, text)
		case 1:
			told, ok = counted(sign, text, days)
		default:
			told, ok = longTime(sign, text)
		}
		if !ok {
			return nil
		}
		amounts = append(amounts, told...)
	}
	return interval{amounts: amounts}
}

func yearsAndMonths(sign int64, text string) (list[amount], bool) {
	first, second, _ := strings.Cut(text, "-")
	y, isYears := counted(sign, first, years)
	m, isMonths := counted(sign, second, months)
	return append(y, m...), isYears && isMonths
}

// inWords reads numbers with units, and times, in any order, and perhaps "ago".
type inWords struct{}

func (inWords) read(l list[string]) any {
	l, back := l.cutLast("ago")
	var amounts list[amount]
	var used list[unit]
	for len(l) > 0 {
		told, units, words := nextAmounts(l)
		again := slices.ContainsFunc(units, func(u unit) bool { return slices.Contains(used, u) })
		if words == 0 || again {
			return nil
		}
		amounts = append(amounts, told...)
		used = append(used, units...)
		_, l = l.part(words)
	}
	if len(amounts) == 0 {
		return nil
	}
	return interval{amounts, back}
}

// nextAmounts is what the first words tell, the units of that, and how many
// words it is; 0: they tell nothing.
func nextAmounts(l list[string]) (list[amount], list[unit], int) {
	sign, text := cutSign(l[0])
	if told, ok := longTime(sign, text); ok {
		return told, list[unit]{hours, minutes, seconds}, 1
	}
	if len(l) < 2 {
		return nil, nil, 0
	}
	u, isUnit := unitOf(l[1])
	told, ok := counted(sign, text, u)
	if !isUnit || !ok {
		return nil, nil, 0
	}
	return told, list[unit]{u}, 2
}

// unitOf is the unit of a name, of one or of many.
func unitOf(w string) (unit, bool) {
	switch strings.TrimSuffix(w, "s") {
	case "year":
		return years, true
	case "month", "mon":
		return months, true
	case "week":
		return weeks, true
	case "day":
		return days, true
	case "hour":
		return hours, true
	case "minute", "min":
		return minutes, true
	case "second", "sec":
		return seconds, true
	}
	return 0, false
}

// cutSign is -1 or 1, by the sign with which a word may begin, and what stands
// behind it.
func cutSign(w string) (int64, string) {
	if text, ok := strings.CutPrefix(w, "-"); ok {
		return -1, text
	}
	return 1, strings.TrimPrefix(w, "+")
}

// counted is so many of a unit, as digits tell.
func counted(sign int64, text string, u unit) (list[amount], bool) {
	n, e := word.Number(text)
	return list[amount]{{sign * n, e, u}}, e != api.ErrLiteral
}

// longTime is a time of any length: its hours, and all else of it.
func longTime(sign int64, text string) (list[amount], bool) {
	first, rest, _ := strings.Cut(text, ":")
	h, ok := counted(sign, first, hours)
	// A time of a day could do without seconds.
	if !ok || !strings.Contains(rest, ":") {
		return nil, false
	}
	us, e := clock.Read("0:" + rest)
	return append(h, amount{n: sign * us, unit: micros}), e == api.OK
}
