package read

import (
	"cmp"
	"strings"

	"computus/api"
	"computus/civil"
	"computus/clock"
	"computus/day"
	"computus/word"
)

const (
	signs      = "-/." // of which one stands between a date's groups
	dateParts  = 3     // a year, a month, a day
	dayDigits  = 2     // at most, and of a month
	yearDigits = 6     // at most
	windowFrom = 70    // of a year's last two digits: the first of its hundred years
	century    = 100
)

// places is where a date's parts stand among three.
type places struct{ year, month, day int }

// orders is those of the styles.
var orders = [...]places{
	api.YMD: {0, 1, 2},
	api.DMY: {2, 1, 0},
	api.MDY: {2, 0, 1},
}

// calendar is a date as a text says it; its year may be one of those that no
// date can have.
type calendar struct{ year, month, day int64 }

// right: has the year such a month, and the month such a day?
func (c calendar) right() bool {
	return c.day >= 1 && c.day <= civil.Len(c.year, c.month)
}

// moment is a date, and a time of its day, of which perhaps a zone is named.
type moment struct {
	calendar
	time  int64
	fault api.Errno // of a time that is none of a day
	zone  string    // "": none is named
}

func (m moment) date() (api.Date, api.Errno) {
	return day.Make(m.year, m.month, m.day)
}

func (m moment) stamp() (api.Stamp, api.Errno) {
	d, e := m.date()
	if e = cmp.Or(e, m.fault); e != api.OK {
		return api.Stamp{}, e
	}
	return day.Stamp(d, m.time)
}

// epoch reads the name of the instant from which seconds are counted.
type epoch struct{}

func (epoch) read(l list[string]) any {
	if w, _ := l.alone(); w != "epoch" {
		return nil
	}
	return moment{calendar: calendar{1970, 1, 1}, zone: utc}
}

// dated reads a date by an order, with so many words of a time behind it at
// most, and perhaps BC or AD.
type dated struct{ order, most int }

func (f dated) read(l list[string]) any {
	if f.most > noTime {
		l = partTime(l)
	}
	words, rest := l.part(dateWords(l))
	rest, before := rest.cutLast("bc")
	if !before {
		rest, _ = rest.cutLast("ad")
	}
	switch c := firstOf(words, byName{}, packed{}, byOrder{f.order}, dashed{}).(type) {
	case calendar:
		if before {
			c.year = 1 - c.year
		}
		if c.right() {
			return f.timed(moment{calendar: c}, rest)
		}
	}
	return nil
}

// timed is a moment with the time, and the zone, that the words behind its date
// tell.
func (f dated) timed(m moment, rest list[string]) any {
	if len(rest) > f.most {
		return nil
	}
	if len(rest) == 0 {
		return m
	}
	time := rest[0]
	switch {
	case len(rest) == withZone:
		m.zone = rest[1]
	case f.most == withZone:
		time, m.zone = cutZone(time)
	}
	m.time, m.fault = clock.Read(time)
	if m.fault == api.ErrLiteral {
		return nil
	}
	return m
}

// dateWords is how many words a date has, with which words begin.
func dateWords(l list[string]) int {
	if len(l) >= dateParts && (word.Month(l[0]) != 0 || word.Month(l[1]) != 0) {
		return dateParts
	}
	return 1
}

// partTime parts the first word at a T between a date and a time.
func partTime(l list[string]) list[string] {
	head, rest := l.part(1)
	w, _ := head.alone()
	for i := 1; i+1 < len(w); i++ {
		if w[i] == 't' && isDigit(w[i-1]) && isDigit(w[i+1]) {
			return append(list[string]{w[:i], w[i+1:]}, rest...)
		}
	}
	return l
}

// cutZone parts a word into a time and the zone behind it.
func cutZone(w string) (string, string) {
	if i := strings.IndexAny(w, "+-"); i >= 0 {
		return w[:i], w[i:]
	}
	if time, ok := strings.CutSuffix(w, utc); ok {
		return time, utc
	}
	return w, ""
}

// byName reads three words of which one is the name of a month.
type byName struct{}

func (byName) read(l list[string]) any {
	if len(l) != dateParts {
		return nil
	}
	at := orders[api.DMY]
	if word.Month(l[0]) != 0 {
		at = orders[api.MDY]
	} else if len(l[0]) > dayDigits {
		at = orders[api.YMD]
	}
	y, isYear := longYear(l[at.year])
	m := word.Month(l[at.month])
	d, isDay := digits(l[at.day], 1, dayDigits)
	if !isYear || m == 0 || !isDay {
		return nil
	}
	return calendar{y, m, d}
}

// dashed reads the same in one word.
type dashed struct{}

func (dashed) read(l list[string]) any {
	w, _ := l.alone()
	return byName{}.read(strings.Split(w, "-"))
}

// packed reads eight digits.
type packed struct{}

func (packed) read(l list[string]) any {
	w, _ := l.alone()
	if len(w) != 8 {
		return nil
	}
	y, isYear := longYear(w[:4])
	m, isMonth := digits(w[4:6], dayDigits, dayDigits)
	d, isDay := digits(w[6:], dayDigits, dayDigits)
	if !isYear || !isMonth || !isDay {
		return nil
	}
	return calendar{y, m, d}
}

// byOrder reads three groups of digits in one word, in an order, unless the
// first one is too long to be no year.
type byOrder struct{ order int }

func (f byOrder) read(l list[string]) any {
	w, _ := l.alone()
	g := groups(w)
	if len(g) != dateParts {
		return nil
	}
	at := orders[f.order]
	if len(g[0]) > dayDigits {
		at = orders[api.YMD]
	}
	y, isYear := anyYear(g[at.year])
	m, isMonth := digits(g[at.month], 1, dayDigits)
	d, isDay := digits(g[at.day], 1, dayDigits)
	if !isYear || !isMonth || !isDay {
		return nil
	}
	return calendar{y, m, d}
}

// groups is what stands about the first sign of a word, wherever it stands again.
func groups(w string) list[string] {
	i := strings.IndexAny(w, signs)
	if i < 0 {
		return nil
	}
	return strings.Split(w, w[i:i+1])
}

// anyYear is the year of one digit to six.
func anyYear(s string) (int64, bool) {
	n, short := digits(s, 1, dayDigits)
	switch {
	case !short:
		return longYear(s)
	case n < windowFrom:
		return 20*century + n, true
	}
	return 19*century + n, true
}

// longYear is the year of three digits to six, as they are; 0 is none.
func longYear(s string) (int64, bool) {
	n, ok := digits(s, dayDigits+1, yearDigits)
	return n, ok && n != 0
}
