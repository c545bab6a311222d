package read_test

import (
	"math"
	"math/rand"
	"regexp"
	"strconv"
	"strings"
	"testing"
	"time"

	"computus/api"
	"computus/comp"
	"computus/names"
	"computus/read"
	"computus/zone"
)

const (
	dayMicro  = 86400000000
	micro     = 1000000
	hour      = 3600 * micro
	since1970 = 946684800
	mostText  = 2048
	leastYear = -4712
	mostYear  = 294276
)

// example is the document's own source, and some zones beside.
const example = "Rule EU 1977 1980 - Apr Sun>=1 1:00u 1:00 S\n" +
	"Rule EU 1981 max - Mar lastSun 1:00u 1:00 S\n" +
	"Rule EU 1996 max - Oct lastSun 1:00u 0:00 -\n" +
	"Zone Europe/Berlin 0:53:28 - LMT 1893 Apr 1 0:00\n" +
	"1:00 EU CE%sT\n" +
	"Zone Far/East 14:00 - FAR\n" +
	"Zone Far/West -14:00 - WES\n" +
	"Zone EST -5:30 - EST\n" +
	"Zone BC -8:00 - PST\n" +
	"Zone March 3:00 - MAR\n" +
	"Link Europe/Berlin Berlin\n"

func bookOf(t testing.TB, source string) *names.Book {
	t.Helper()
	b, _, _, e := names.Load(source)
	if e != api.OK {
		t.Fatal("Load", e)
	}
	return b
}

func tableOf(t testing.TB, b *names.Book, name string) comp.Table {
	t.Helper()
	z, e := b.Find(name)
	if e != api.OK {
		t.Fatal("Find", name, e)
	}
	return z
}

func berlin(t testing.TB) read.Env {
	b := bookOf(t, example)
	return read.Env{Zone: tableOf(t, b, "Berlin"), Book: b}
}

// midnight is the seconds since 1970 at a day's beginning.
func midnight(y int, m time.Month, d int) int64 {
	return time.Date(y, m, d, 0, 0, 0, 0, time.UTC).Unix()
}

func at(y int, m time.Month, d int, us int64) api.Stamp {
	return api.Stamp{U: (midnight(y, m, d)-since1970)*micro + us}
}

func dateAt(y int, m time.Month, d int) api.Date {
	return api.Date{D: (midnight(y, m, d) - since1970) / 86400}
}

func first() api.Stamp { return at(leastYear, 1, 1, 0) }
func last() api.Stamp  { return at(mostYear, 12, 31, dayMicro-1) }

func rightStamp(t api.Stamp) bool {
	return t.Inf == 0 && t.U >= first().U && t.U <= last().U || (t.Inf == 1 || t.Inf == -1) && t.U == 0
}

// moved is the stamp so many seconds ahead of another one, if it can be.
func moved(l api.Stamp, sec int64) (api.Stamp, api.Errno) {
	// No stamp is so far away that this goes round.
	if t := (api.Stamp{U: l.U - sec*micro}); rightStamp(t) {
		return t, api.OK
	}
	return api.Stamp{}, api.ErrRange
}

var blanks = regexp.MustCompile("[ \t\n\r]+")

// small is a text with small letters for A to Z, one blank between words and none about them.
func small(s string) string {
	s = strings.Map(func(c rune) rune {
		if c >= 'A' && c <= 'Z' {
			return c + 'a' - 'A'
		}
		return c
	}, s)
	return strings.Trim(blanks.ReplaceAllString(s, " "), " ")
}

// monthNames is a pattern of all names of months, whole or cut short.
func monthNames() string {
	var l []string
	for m := time.January; m <= time.December; m++ {
		name := strings.ToLower(m.String())
		for n := len(name); n >= 3; n-- {
			l = append(l, name[:n])
		}
	}
	return strings.Join(l, "|")
}

// shape is a form of a date: a pattern, and is it one word alone?
type shape struct {
	pattern string
	one     bool
}

// shapes is all forms of a date by an order.
func shapes(order int) []shape {
	mon := "(?P<name>" + monthNames() + ")"
	const day, month, long, short, any = `(?P<d>\d{1,2})`, `(?P<m>\d{1,2})`, `(?P<y>\d{3,6})`, `(?P<y>\d{1,2})`, `(?P<y>\d{1,6})`
	var l []shape
	for _, sign := range []string{" ", "-"} {
		for _, parts := range [][]string{{mon, day, long}, {day, mon, long}, {long, mon, day}} {
			l = append(l, shape{strings.Join(parts, sign), sign == "-"})
		}
	}
	l = append(l, shape{`(?P<y>\d{4})(?P<m>\d\d)(?P<d>\d\d)`, true})
	for _, sign := range []string{"-", "/", `\.`} {
		l = append(l, shape{strings.Join([]string{long, month, day}, sign), true})
		parts := [][]string{{short, month, day}, {day, month, any}, {month, day, any}}[order]
		l = append(l, shape{strings.Join(parts, sign), true})
	}
	return l
}

const (
	onlyDate = iota
	withTime
	withZone
)

// forms is the patterns of whole texts, by kind and order.
func forms(kind, order int) []*regexp.Regexp {
	const clock = `(?P<t>\d{1,2}:\d\d(?::\d\d(?:\.\d{1,6})?)?)`
	var l []*regexp.Regexp
	for _, x := range shapes(order) {
		gap := " "
		if x.one {
			gap = "(?: |t)"
		}
		tail := [...]string{"", "(?:" + gap + clock + ")?",
			"(?:" + gap + clock + `(?:(?P<in>[+-][^ ]*|z)| (?P<own>[^ ]+))??)?`}[kind]
		l = append(l, regexp.MustCompile("(?s)^"+x.pattern+tail+"(?: (?P<e>bc|ad))?$"))
	}
	return l
}

// model tells what a text must be, by patterns.
type model struct{ all [3][3][]*regexp.Regexp }

func newModel() *model {
	m := &model{}
	for kind := range 3 {
		for order := range 3 {
			m.all[kind][order] = forms(kind, order)
		}
	}
	return m
}

// told is what a text says: its parts by their names.
func (m *model) told(t *testing.T, s string, kind, order int) map[string]string {
	t.Helper()
	var out map[string]string
	if len(s) > mostText {
		return nil
	}
	s = small(s)
	for _, re := range m.all[kind][order] {
		l := re.FindStringSubmatch(s)
		if l == nil {
			continue
		}
		if out != nil {
			t.Fatalf("%q is of two forms", s)
		}
		out = map[string]string{}
		for i, name := range re.SubexpNames() {
			if name != "" {
				out[name] = l[i]
			}
		}
	}
	return out
}

func number(s string) int64 {
	n, _ := strconv.ParseInt(s, 10, 64)
	return n
}

// date is the date that parts tell; its errors.
func (m *model) date(parts map[string]string) (api.Date, api.Errno) {
	if parts == nil {
		return api.Date{}, api.ErrLiteral
	}
	y, month, d := number(parts["y"]), number(parts["m"]), number(parts["d"])
	if name := parts["name"]; name != "" {
		for x := time.January; x <= time.December; x++ {
			if strings.HasPrefix(strings.ToLower(x.String()), name) {
				month = int64(x)
			}
		}
	}
	if len(parts["y"]) <= 2 {
		if y += 1900; y < 1970 {
			y += 100
		}
	}
	if y == 0 {
		return api.Date{}, api.ErrLiteral
	}
	if parts["e"] == "bc" {
		y = 1 - y
	}
	x := time.Date(int(y), time.Month(month), int(d), 0, 0, 0, 0, time.UTC)
	if int64(x.Year()) != y || int64(x.Month()) != month || int64(x.Day()) != d {
		return api.Date{}, api.ErrLiteral
	}
	if y < leastYear || y > mostYear {
		return api.Date{}, api.ErrRange
	}
	return dateAt(int(y), x.Month(), int(d)), api.OK
}

// stamp is the stamp that parts tell; its errors.
func (m *model) stamp(parts map[string]string) (api.Stamp, api.Errno) {
	d, e := m.date(parts)
	if e != api.OK {
		return api.Stamp{}, e
	}
	us := int64(0)
	if parts["t"] != "" {
		whole, fraction, _ := strings.Cut(parts["t"], ".")
		for i, x := range strings.Split(whole, ":") {
			n := number(x)
			if i > 0 && n > 59 {
				return api.Stamp{}, api.ErrRange
			}
			us += n * []int64{hour, hour / 60, micro}[i]
		}
		us += number((fraction + "000000")[:6])
	}
	if us > dayMicro {
		return api.Stamp{}, api.ErrRange
	}
	t := api.Stamp{U: d.D*dayMicro + us}
	if !rightStamp(t) {
		return api.Stamp{}, api.ErrRange
	}
	return t, api.OK
}

// special is what the words alone tell that are no dates.
func special(s string) (api.Stamp, bool) {
	if len(s) > mostText {
		return api.Stamp{}, false
	}
	switch small(s) {
	case "infinity":
		return api.Stamp{Inf: 1}, true
	case "-infinity":
		return api.Stamp{Inf: -1}, true
	case "epoch":
		return at(1970, 1, 1, 0), true
	}
	return api.Stamp{}, false
}

func checkDate(t *testing.T, s string, order int, want api.Date, e api.Errno) {
	t.Helper()
	if got, f := read.Date(s, api.Style{Order: order}); got != want || f != e {
		t.Fatalf("Date(%q, %d) is %v, %d, not %v, %d", s, order, got, f, want, e)
	}
}

func checkStamp(t *testing.T, s string, order int, want api.Stamp, e api.Errno) {
	t.Helper()
	if got, f := read.Stamp(s, api.Style{Order: order}); got != want || f != e {
		t.Fatalf("Stamp(%q, %d) is %v, %d, not %v, %d", s, order, got, f, want, e)
	}
}

func checkTz(t *testing.T, s string, env read.Env, want api.Stamp, e api.Errno) {
	t.Helper()
	if got, f := read.Tz(s, env); got != want || f != e {
		t.Fatalf("Tz(%q, %d, %q) is %v, %d, not %v, %d", s, env.Style.Order, env.Zone.Name, got, f, want, e)
	}
}

// checkAll holds all that a text tells against the patterns. How many of them were right is told.
func (m *model) checkAll(t *testing.T, s string, env read.Env) int {
	t.Helper()
	order, ok := env.Style.Order, 0
	note := func(e api.Errno) api.Errno {
		if e == api.OK {
			ok++
		}
		return e
	}
	if x, is := special(s); is {
		d := api.Date{Inf: x.Inf}
		if x.Inf == 0 {
			d = dateAt(1970, 1, 1)
		}
		checkDate(t, s, order, d, api.OK)
		checkStamp(t, s, order, x, api.OK)
		checkTz(t, s, env, x, api.OK)
		return 3
	}
	d, e := m.date(m.told(t, s, onlyDate, order))
	checkDate(t, s, order, d, note(e))
	x, e := m.stamp(m.told(t, s, withTime, order))
	checkStamp(t, s, order, x, note(e))
	parts := m.told(t, s, withZone, order)
	x, e = m.stamp(parts)
	if e == api.OK {
		if name := parts["in"] + parts["own"]; name != "" {
			x, e = zoneOf(t, name, env, x)
		} else {
			x, e = instantOf(t, env.Zone, x)
		}
	}
	checkTz(t, s, env, x, note(e))
	return ok
}

// The document's examples.
func TestExamples(t *testing.T) {
	for s, order := range map[string]int{"2024-03-31": api.YMD, "3/31/2024": api.MDY, "31 mar 2024": api.YMD, "20240331": api.YMD} {
		checkDate(t, s, order, dateAt(2024, 3, 31), api.OK)
	}
	checkDate(t, "44-03-15 BC", api.YMD, dateAt(1-2044, 3, 15), api.OK)
	checkDate(t, "0044-03-15 BC", api.YMD, dateAt(-43, 3, 15), api.OK)
	checkSpan(t, "1 year -2 mons 03:00:00 ago", api.Span{M: -10, U: -3 * hour}, api.OK)
	checkSpan(t, "P1Y2M3DT4H", api.Span{M: 14, D: 3, U: 4 * hour}, api.OK)
	// Those of the whole.
	env := berlin(t)
	checkTz(t, "2024-03-31 00:30Z", env, at(2024, 3, 31, hour/2), api.OK)
	checkTz(t, "2024-03-30 12:00", env, at(2024, 3, 30, 11*hour), api.OK)
}

// P18.1: the forms of dates, and their orders.
func TestDateForms(t *testing.T) {
	want := dateAt(2024, 3, 5)
	const y, d, m = 1 << api.YMD, 1 << api.DMY, 1 << api.MDY
	for s, orders := range map[string]int{
		"Mar 5 2024": y | d | m, "5 Mar 2024": y | d | m, "2024 Mar 5": y | d | m, "March 05 2024": y | d | m, "05 MARC 002024": y | d | m,
		"Mar-5-2024": y | d | m, "5-Mar-2024": y | d | m, "2024-Mar-5": y | d | m, "20240305": y | d | m, "02024-03-05": y | d | m,
		"2024-3-5": y | d | m, "2024/03/05": y | d | m, "2024.3.05": y | d | m, "24-3-5": y, "24/03/05": y, "5.3.24": d, "05-03-2024": d,
		"5/3/002024": d, "3/5/24": m, "03-05-2024": m, "3.5.2024": m, "3.5.2024 ad": m, "2024-03-05 AD": y | d | m, "Mar 5 2024 AD": y | d | m,
	} {
		for order := range 3 {
			if orders&(1<<order) != 0 {
				checkDate(t, s, order, want, api.OK)
			} else if x, e := read.Date(s, api.Style{Order: order}); x == want && e == api.OK {
				t.Errorf("Date(%q, %d) is the same", s, order)
			}
		}
	}
	for _, s := range []string{"", " ", "2024", "2024-03", "2024-03-05-1", "2024-03/05", "2024-03.05", "2024:03:05", "2024 03 05", "5-3-2024-", "-2024-03-05",
		"Mar 2024 5", "2024 5 Mar", "5 2024 Mar", "Mar-2024-5", "5-2024-Mar", "2024-5-Mar", "Mar 5 24", "5 Mar 24", "24 Mar 5", "5-Mar-24", "Mar/5/2024", "5.Mar.2024",
		"Mar 5, 2024", "Ma 5 2024", "Marx 5 2024", "Mar 005 2024", "5 3 2024", "2024-003-05", "2024-03-005", "2024030", "202403051", "2024-03-05x", "1234567-01-01",
		"2024-03-05 12:00", "2024-03-05T12:00", "2024-03-05 BC AD", "2024-03-05 B.C.", "2024-03-05BC", "BC 2024-03-05", "2024-03-05 Mar BC", "Mar 5 2024 Mar",
		"Mar 5 2024 12:00", "infinity BC", "+infinity", "-epoch", "epoch epoch", "inf", "- infinity", "now", "today", "٢٠٢٤-03-05", "2024-03-05\x00", "2024\v-03-05",
		"0-0-0", "24-03-05 AD AD", "March", "5 Mar", "5 Mar BC", "Mar 5", "2024-Mar", "Mar Mar 2024", "5 Mar Mar"} {
		for order := range 3 {
			checkDate(t, s, order, api.Date{}, api.ErrLiteral)
		}
	}
}

// P18.1: months and days that are none, years that are none, and what comes first.
func TestDateEdges(t *testing.T) {
	for s, e := range map[string]api.Errno{
		"2024-00-01": api.ErrLiteral, "2024-13-01": api.ErrLiteral, "2024-01-00": api.ErrLiteral, "2024-01-32": api.ErrLiteral, "2024-04-31": api.ErrLiteral,
		"2024-02-29": api.OK, "2023-02-29": api.ErrLiteral, "1900-02-29": api.ErrLiteral, "2000-02-29": api.OK, "2024-02-30": api.ErrLiteral,
		"0001-02-29 BC": api.OK, "0004-02-29 BC": api.ErrLiteral, "0005-02-29 BC": api.OK, "0004-02-29": api.OK, "0101-02-29 BC": api.ErrLiteral, "0401-02-29 BC": api.OK,
		"0000-01-01": api.ErrLiteral, "000-01-01": api.ErrLiteral, "000000-01-01": api.ErrLiteral, "0000-01-01 BC": api.ErrLiteral, "00000101": api.ErrLiteral,
		"00-01-01": api.OK, "0-1-1": api.OK, "Jan 1 0000": api.ErrLiteral, "Jan 1 000": api.ErrLiteral, "Jan 1 001": api.OK,
		"4713-01-01 BC": api.OK, "4714-12-31 BC": api.ErrRange, "294276-12-31": api.OK, "294277-01-01": api.ErrRange, "999999-12-31": api.ErrRange,
		"999999-12-31 BC": api.ErrRange, "999999-12-32": api.ErrLiteral, "999999-02-29": api.ErrLiteral, "999999-02-29 BC": api.ErrLiteral, "999996-02-29": api.ErrRange,
		"294277-01-01 x": api.ErrLiteral, "4719-01-01 BC": api.ErrRange, "4720-01-01 BC": api.ErrRange, "294283-01-01": api.ErrRange,
	} {
		if _, f := read.Date(s, api.Style{}); f != e {
			t.Errorf("Date(%q) is %d, not %d", s, f, e)
		}
	}
	for s, y := range map[string]int{"70-01-01": 1970, "69-01-01": 2069, "99-1-1": 1999, "00-1-1": 2000, "0-1-1": 2000, "9-1-1": 2009, "070-1-1": 70, "100-1-1": 100,
		"294276-1-1": 294276, "70-1-1 BC": 1 - 1970, "5-1-1 bc": 1 - 2005, "005-1-1 bc": -4, "001-1-1 BC": 0, "4713-1-1 BC": -4712} {
		checkDate(t, s, api.YMD, dateAt(y, 1, 1), api.OK)
	}
	// Of other orders a year has one digit to six at its place, too.
	for s, y := range map[string]int{"1/1/7": 2007, "1/1/70": 1970, "1/1/070": 70, "1/1/12345": 12345, "1/1/294276": 294276} {
		checkDate(t, s, api.DMY, dateAt(y, 1, 1), api.OK)
		checkDate(t, s, api.MDY, dateAt(y, 1, 1), api.OK)
	}
	checkDate(t, "13/1/2024", api.MDY, api.Date{}, api.ErrLiteral)
	checkDate(t, "13/1/2024", api.DMY, dateAt(2024, 1, 13), api.OK)
}

// P18.2: dates with times.
func TestStampForms(t *testing.T) {
	want := at(2024, 3, 5, 2*hour+30*60*micro)
	for _, s := range []string{"2024-03-05 02:30", "2024-03-05T2:30", "20240305t02:30:00", "5 Mar 2024 2:30:00.0", "Mar 5 2024 02:30:00.000000 AD", "5-mar-2024T02:30",
		"2024 Mar 5 2:30 ad", "24-3-5 2:30", "24.3.5t2:30 AD"} {
		checkStamp(t, s, api.YMD, want, api.OK)
	}
	checkStamp(t, "2024-03-05", api.YMD, at(2024, 3, 5, 0), api.OK)
	checkStamp(t, "2024-03-05 24:00", api.YMD, at(2024, 3, 6, 0), api.OK)
	checkStamp(t, "2024-03-05 23:59:59.999999", api.YMD, at(2024, 3, 5, dayMicro-1), api.OK)
	checkStamp(t, "0044-03-15 12:00 BC", api.YMD, at(-43, 3, 15, 12*hour), api.OK)
	checkStamp(t, "0044-03-15T12:00 BC", api.YMD, at(-43, 3, 15, 12*hour), api.OK)
	for _, s := range []string{"", "2024-03-05 2", "2024-03-05 2:3", "2024-03-05 002:30", "2024-03-05 2:30:0", "2024-03-05 2:30:00.", "2024-03-05 2:30:00.1234567", "2024-03-05 2:30 PM",
		"2024-03-05 2:30Z", "2024-03-05 2:30+01", "2024-03-05 2:30 CET", "2024-03-05 BC 2:30", "2:30 2024-03-05", "2024-03-05T", "2024-03-05 T2:30", "2024-03-05T 2:30",
		"2024-03-05TT2:30", "2024-03-05T2:30T3:30", "2024T03-05 2:30", "2024-03-05 2:30 2:30", "5 Mar 2024T2:30", "Mar 5 2024T2:30", "2024 Mar 5T2:30", "2:30", "T2:30", "2024-03-05 -2:30",
		"2024-03-05 2:30 BC BC", "2024-02-30 2:30", "0000-01-01 2:30", "2024-13-01 25:00", "999999-01-01 2.30"} {
		checkStamp(t, s, api.YMD, api.Stamp{}, api.ErrLiteral)
	}
	for _, s := range []string{"2024-03-05 24:00:00.000001", "2024-03-05 24:01", "2024-03-05 25:00", "2024-03-05 12:60", "2024-03-05 12:00:60", "2024-03-05 99:99:99", "294276-12-31 24:00",
		"294277-01-01", "294277-01-01 12:00", "294277-01-01 25:00", "4714-12-31 24:00 BC", "999999-01-01 12:60"} {
		checkStamp(t, s, api.YMD, api.Stamp{}, api.ErrRange)
	}
	checkStamp(t, "294276-12-31 23:59:59.999999", api.YMD, last(), api.OK)
	checkStamp(t, "4713-01-01 BC", api.YMD, first(), api.OK)
}

// P18.3: where a zone's word may stand, and which errors come first.
func TestTzForms(t *testing.T) {
	env := berlin(t)
	want := at(2024, 7, 1, 10*hour)
	for _, s := range []string{"2024-07-01 12:00", "2024-07-01 12:00+02", "2024-07-01 12:00 +02", "2024-07-01T12:00:00+0200", "2024-07-01 12:00:00.0+02:00:00", "2024-07-01 10:00Z", "2024-07-01T10:00z",
		"2024-07-01 10:00 z", "2024-07-01 12:00 CEST", "2024-07-01 11:00 CET", "2024-07-01 12:00 Europe/Berlin", "2024-07-01 12:00 berlin AD", "1 jul 2024 12:00 BERLIN", "Jul 1 2024 05:00-05",
		"2024-07-01 10:00 UTC AD", "2024-07-01 10:00-00", "2024-07-02 00:00 FAR/east", "2024-06-30 20:00 Far/West", "2024-07-01 13:00 March", "2024-07-01 05:00 EST", "2024-07-01 10:00Z ad",
		"2024-07-01T02:00 BC AD", "2024-06-30 24:00-10"} {
		checkTz(t, s, env, want, api.OK)
	}
	checkTz(t, "0044-03-15 12:00:00+00:53:28 BC", env, at(-43, 3, 15, 12*hour-3208*micro), api.OK)
	checkTz(t, "0044-03-15 12:00:00 BC", env, at(-43, 3, 15, 12*hour-3208*micro), api.OK)
	checkTz(t, "2024-07-01", env, at(2024, 6, 30, 22*hour), api.OK)
	for s, e := range map[string]api.Errno{
		"":               api.ErrLiteral,
		"2024-07-01 +02": api.ErrLiteral, "2024-07-01+02": api.ErrLiteral, "2024-07-01 CEST": api.ErrLiteral, "2024-07-01Z": api.ErrLiteral, "2024-07-01 Z": api.ErrLiteral,
		"2024-07-01 12:00+02 CEST": api.ErrLiteral, "2024-07-01 12:00Z Z": api.ErrLiteral, "2024-07-01 12:00 BC CEST": api.ErrLiteral, "2024-07-01 12:00 CEST CEST": api.ErrLiteral,
		"2024-07-01 12:00+": api.ErrLiteral, "2024-07-01 12:00-x": api.ErrLiteral, "2024-07-01 12:00 +2:3": api.ErrLiteral, "2024-07-01 12:00+02Z": api.ErrLiteral, "2024-07-01 12:00CEST": api.ErrLiteral,
		"2024-07-01 12:00ZZ": api.ErrLiteral, "2024-07-01 BC 12:00": api.ErrLiteral, "2024-07-01 12:00+02 BC AD": api.ErrLiteral, "2024-02-30 12:00 Nowhere": api.ErrLiteral, "2024-07-01 12 Nowhere": api.ErrLiteral,
		"2024-07-01 12:00 Nowhere": api.ErrZone, "2024-07-01 12:00 13:00": api.ErrZone, "2024-07-01 12:00 infinity": api.ErrZone, "2024-07-01 12:00 CES": api.ErrZone, "2024-07-01 12:00 AD BC": api.ErrZone,
		"2024-07-01 12:00+16": api.ErrRange, "2024-07-01 12:00+15:60": api.ErrRange, "2024-07-01 12:00 -99": api.ErrRange,
		"2024-07-01 25:00 Nowhere": api.ErrRange, "2024-07-01 25:00+x": api.ErrRange, "294277-01-01 12:00 Nowhere": api.ErrRange, "294276-12-31 24:00 Nowhere": api.ErrRange, "294276-12-31 24:00+15": api.ErrRange,
		"294276-12-31 23:00-02": api.ErrRange, "294276-12-31 23:00-01": api.ErrRange, "4713-01-01 00:30+01 BC": api.ErrRange, "4713-01-01 00:30 BC": api.ErrRange, "4713-01-01 BC": api.ErrRange,
		"294276-12-31 23:00-00:59": api.OK, "4713-01-01 01:00+01 BC": api.OK, "4713-01-01 00:53:28 BC": api.OK, "294276-12-31 24:00:00 UTC": api.ErrRange,
		"294276-12-31 23:59:59 Far/West": api.ErrRange, "4713-01-01 Far/East BC": api.ErrLiteral, "4713-01-01 0:00 Far/East BC": api.ErrRange,
	} {
		if x, f := read.Tz(s, env); f != e || e != api.OK && x != (api.Stamp{}) {
			t.Errorf("Tz(%q) is %v, %d, not %d", s, x, f, e)
		}
	}
	// BC behind a time is no zone, even where there is one of that name.
	checkTz(t, "2024-07-01 12:00 BC", env, at(-2023, 7, 1, 12*hour-3208*micro), api.OK)
	checkTz(t, "2024-07-01 12:00 BC BC", env, at(-2023, 7, 1, 20*hour), api.OK)
}

// P18.3: hours that clocks leave out, and say twice.
func TestTzShifts(t *testing.T) {
	env := berlin(t)
	for s, want := range map[string]api.Stamp{
		"2024-03-31 02:30": at(2024, 3, 31, 3*hour/2), "2024-03-31 02:30 CET": at(2024, 3, 31, 3*hour/2), "2024-03-31 02:30 CEST": at(2024, 3, 31, hour/2),
		"2024-03-31 03:30": at(2024, 3, 31, 3*hour/2), "2024-10-27 02:30": at(2024, 10, 27, hour/2), "2024-10-27 02:30 CEST": at(2024, 10, 27, hour/2),
		"2024-10-27 02:30 CET": at(2024, 10, 27, 3*hour/2), "2024-10-27 02:30 Berlin": at(2024, 10, 27, hour/2), "1890-01-01 12:00 LMT": at(1890, 1, 1, 12*hour-3208*micro),
	} {
		checkTz(t, s, env, want, api.OK)
	}
	checkTz(t, "2024-01-01 12:00 LMT", env, api.Stamp{}, api.ErrZone)
}

// The words that stand alone.
func TestSpecial(t *testing.T) {
	m, env := newModel(), berlin(t)
	for _, s := range []string{"infinity", "-infinity", "epoch", " INFINITY\t", "\n-Infinity", "ePOCH\r"} {
		for order := range 3 {
			env.Style.Order = order
			m.checkAll(t, s, env)
		}
	}
	for _, s := range []string{"infinity AD", "epoch BC", "epoch Z", "epoch 12:00", "infinityinfinity", "--infinity", "infinity infinity"} {
		m.checkAll(t, s, env)
		checkDate(t, s, 0, api.Date{}, api.ErrLiteral)
		checkTz(t, s, env, api.Stamp{}, api.ErrLiteral)
	}
}

// A wrong order, and a wrong zone, are told ahead of all else.
func TestArguments(t *testing.T) {
	wrong := []comp.Table{{First: api.Tran{At: 1}}, {First: api.Tran{Off: 57601}}, {Trans: []api.Tran{{At: 5}, {At: 4}}}, {Foot: comp.Foot{Has: true}}}
	for _, s := range []string{"", "infinity", "epoch", "2024-03-05", "2024-03-05 25:00", "2024-03-05 12:00 Nowhere", "x", "294277-01-01", strings.Repeat(" ", 3000)} {
		for _, order := range []int{-1, 3, math.MinInt, math.MaxInt} {
			checkDate(t, s, order, api.Date{}, api.ErrArg)
			checkStamp(t, s, order, api.Stamp{}, api.ErrArg)
			checkTz(t, s, read.Env{Style: api.Style{Order: order}, Zone: zone.UTC(), Book: names.Empty()}, api.Stamp{}, api.ErrArg)
		}
		for _, z := range wrong {
			checkTz(t, s, read.Env{Zone: z, Book: names.Empty()}, api.Stamp{}, api.ErrArg)
		}
	}
	// What else a style says plays no part.
	for _, style := range []api.Style{{Out: 9, Span: -3}, {Out: math.MinInt, Span: math.MaxInt}} {
		if d, e := read.Date("2024-03-05", style); d != dateAt(2024, 3, 5) || e != api.OK {
			t.Error("Date", style, d, e)
		}
	}
	checkTz(t, "2024-03-05 12:00 Nowhere", read.Env{}, api.Stamp{}, api.ErrZone)
	checkTz(t, "2024-03-05 12:00 UTC", read.Env{}, at(2024, 3, 5, 12*hour), api.OK)
	checkTz(t, "2024-03-05 12:00", read.Env{}, at(2024, 3, 5, 12*hour), api.OK)
}

// A text has 2048 bytes at most.
func TestLongTexts(t *testing.T) {
	env := berlin(t)
	for _, s := range []string{"2024-03-05", "5 mar 2024", "infinity", "epoch"} {
		long := s + strings.Repeat(" ", mostText-len(s))
		newModel().checkAll(t, long, env)
		if _, e := read.Date(long, api.Style{}); e != api.OK {
			t.Error("Date of a text that is not too long", e)
		}
		for _, s := range []string{long + " ", " " + long, strings.Repeat(long, 3)} {
			checkDate(t, s, 0, api.Date{}, api.ErrLiteral)
			checkStamp(t, s, 0, api.Stamp{}, api.ErrLiteral)
			checkTz(t, s, env, api.Stamp{}, api.ErrLiteral)
		}
	}
}

// pick is one of some.
func pick[T any](r *rand.Rand, l ...T) T { return l[r.Intn(len(l))] }

// figures is a number with so many digits, often at an edge.
func figures(r *rand.Rand, n int) string {
	s := ""
	for range n {
		s += strconv.Itoa(r.Intn(10))
	}
	return s
}

func someYear(r *rand.Rand) string {
	switch r.Intn(8) {
	case 0:
		return figures(r, r.Intn(8))
	case 1:
		return pick(r, "0", "00", "000", "0000", "69", "70", "4713", "4714", "294276", "294277", "0001", "999999")
	case 2:
		return figures(r, 2)
	}
	return strconv.Itoa(1800 + r.Intn(400))
}

func someDate(r *rand.Rand) string {
	y, d := someYear(r), strconv.Itoa(r.Intn(33))
	m := strconv.Itoa(r.Intn(14))
	if r.Intn(8) > 0 {
		d, m = strconv.Itoa(1+r.Intn(28)), strconv.Itoa(1+r.Intn(12))
	}
	pad := func(s string) string {
		if len(s) == 1 && r.Intn(2) == 0 {
			return "0" + s
		}
		return s
	}
	d, m = pad(d), pad(m)
	if r.Intn(3) == 0 {
		name := time.Month(1 + r.Intn(12)).String()
		m = name[:min(len(name), 3+r.Intn(9))]
	}
	if r.Intn(12) == 0 {
		return y + m + d
	}
	l := pick(r, []string{y, m, d}, []string{y, m, d}, []string{d, m, y}, []string{m, d, y})
	if r.Intn(20) == 0 {
		l = []string{y, d, m}
	}
	if r.Intn(20) == 0 {
		return strings.Join(l, ":")
	}
	if m[0] > '9' {
		return strings.Join(l, pick(r, "-", " ", " "))
	}
	return strings.Join(l, pick(r, "-", "-", "/", "."))
}

func someTime(r *rand.Rand) string {
	if r.Intn(2) == 0 {
		return pick(r, "2:30", "02:30", "12:00:00", "23:59:59.999999", "1:00:00.5", "24:00")
	}
	s := pick(r, figures(r, 1), strconv.Itoa(r.Intn(24)), "24", figures(r, 2)) + ":" + pick(r, "00", "30", "59", "60", figures(r, 1), strconv.Itoa(10+r.Intn(50)))
	if r.Intn(2) == 0 {
		s += ":" + pick(r, "00", "59", "60", strconv.Itoa(10+r.Intn(50)))
		if r.Intn(2) == 0 {
			s += "." + figures(r, r.Intn(8))
		}
	}
	return s
}

func someOffset(r *rand.Rand) string {
	return pick(r, "+", "-") + pick(r, "01", "5", "0530", "05:30", "15:59:59", "16", "00", "1:2", "14:00", "", "x", "99:99", "00:53:28")
}

func someZone(r *rand.Rand) string {
	return pick(r, "CET", "cest", "UTC", "GMT", "EST", "Berlin", "Europe/Berlin", "Nowhere", "LMT", "Z", "z", "BC", "A", "B", "C", "March", "FAR", "far/east", "Far/West", "IST", someOffset(r))
}

// mangled is a text of which a little may be wrong.
func mangled(r *rand.Rand, s string) string {
	if r.Intn(4) > 0 || s == "" {
		return s
	}
	i := r.Intn(len(s))
	c := pick(r, " ", "\t", "-", "/", ".", ":", "T", "t", "Z", "z", "+", "0", "9", "BC", "x", "\xff", "é", "\x00", "\f", "ago", "s", "P")
	switch r.Intn(4) {
	case 0:
		return s[:i] + s[i+1:]
	case 1:
		return s[:i] + c + s[i+1:]
	case 2:
		j := r.Intn(len(s))
		return s[:max(i, j)] + s[min(i, j):]
	}
	return s[:i] + c + s[i:]
}

// someText is a text that is a date, perhaps with a time and a zone, or nearly so.
func someText(r *rand.Rand) string {
	if r.Intn(200) == 0 {
		return mangled(r, pick(r, "infinity", "-infinity", "epoch"))
	}
	s := someDate(r)
	if r.Intn(3) > 0 {
		s += pick(r, " ", " ", "T", "t", "  ") + someTime(r)
		switch r.Intn(4) {
		case 0:
			s += someOffset(r)
		case 1:
			s += " " + someZone(r)
		case 2:
			s += pick(r, "Z", "z", "")
		}
	}
	if r.Intn(4) == 0 {
		s += pick(r, " BC", " AD", " bc", "BC", " AC")
	}
	return mangled(r, s)
}

// environments is zones of many kinds, with books and without.
func environments(t testing.TB) []read.Env {
	env := berlin(t)
	three := comp.Table{Name: "three", First: api.Tran{Off: 7200, Abbr: "A"}, Trans: []api.Tran{
		{At: midnight(2000, 1, 1), Off: 3600, Abbr: "B"}, {At: midnight(2000, 1, 1) + 1800, Off: 0, Abbr: "a"}, {At: midnight(2000, 1, 1) + 3600, Off: -3600, Abbr: "C"}}}
	return []read.Env{env, {Zone: zone.UTC(), Book: env.Book}, {Zone: zone.UTC()}, {Zone: three, Book: env.Book}, {Zone: tableOf(t, env.Book, "Far/East"), Book: env.Book},
		{Zone: comp.Table{First: api.Tran{Off: -57600, Abbr: "EST"}}, Book: names.Empty()}, {Zone: comp.Table{First: api.Tran{Off: 57600, Abbr: "z"}}, Book: env.Book}}
}

// P18.1 to P18.4: all texts, by patterns.
func TestAllTexts(t *testing.T) {
	m, envs := newModel(), environments(t)
	r := rand.New(rand.NewSource(181))
	ok := 0
	for range 150000 {
		env := envs[r.Intn(len(envs))]
		env.Style.Order = r.Intn(3)
		ok += m.checkAll(t, someText(r), env)
	}
	if ok < 50000 {
		t.Error("too few were right:", ok)
	}
}

// P18.7 and P18.8: blanks more, and letters great or small, change nothing.
func TestBlanksAndLetters(t *testing.T) {
	envs := environments(t)
	r := rand.New(rand.NewSource(182))
	for range 60000 {
		s := pick(r, someText, someInterval)(r)
		other := respaced(r, s)
		env := envs[r.Intn(len(envs))]
		env.Style.Order = r.Intn(3)
		d, e := read.Date(s, env.Style)
		checkDate(t, other, env.Style.Order, d, e)
		x, e := read.Stamp(s, env.Style)
		checkStamp(t, other, env.Style.Order, x, e)
		x, e = read.Tz(s, env)
		checkTz(t, other, env, x, e)
		y, e := read.Span(s)
		checkSpan(t, other, y, e)
	}
}

// respaced is a text with more blanks, and its letters great or small.
func respaced(r *rand.Rand, s string) string {
	var b strings.Builder
	blanks := func() {
		for range r.Intn(3) {
			b.WriteByte(pick(r, byte(' '), '\t', '\n', '\r'))
		}
	}
	blanks()
	for i := range len(s) {
		c := s[i]
		switch {
		case strings.IndexByte(" \t\n\r", c) >= 0:
			b.WriteByte(pick(r, byte(' '), '\t', '\n', '\r'))
			blanks()
		case r.Intn(2) == 0 && c >= 'a' && c <= 'z':
			b.WriteByte(c + 'A' - 'a')
		case r.Intn(2) == 0 && c >= 'A' && c <= 'Z':
			b.WriteByte(c + 'a' - 'A')
		default:
			b.WriteByte(c)
		}
	}
	blanks()
	return b.String()
}

// Every call ends, of any bytes.
func TestAnyBytes(t *testing.T) {
	m, envs := newModel(), environments(t)
	r := rand.New(rand.NewSource(183))
	const likely = "0123456789-/.: \t+TtZzPpMmBbCcAaDdYyHhSs\x00\xff\xc3\xa9"
	for range 60000 {
		b := make([]byte, r.Intn(24))
		for i := range b {
			b[i] = likely[r.Intn(len(likely))]
			if r.Intn(10) == 0 {
				b[i] = byte(r.Intn(256))
			}
		}
		env := envs[r.Intn(len(envs))]
		env.Style.Order = r.Intn(3)
		m.checkAll(t, string(b), env)
		checkSpanByPattern(t, string(b))
		read.Abbr(string(b))
		read.Zone(string(b), env, last())
	}
}
