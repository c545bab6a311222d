package show_test

import (
	"fmt"
	"math"
	"math/rand"
	"reflect"
	"slices"
	"strings"
	"testing"
	"time"
	_ "time/tzdata"

	"computus/api"
	"computus/comp"
	"computus/names"
	"computus/read"
	"computus/show"
	"computus/zone"
)

const (
	dayMicro  = 86400000000
	micro     = 1000000
	hour      = 3600 * micro
	since1970 = 946684800
	mostCount = 2147483647 // months, and days
	mostText  = 2048
	leastYear = -4712
	mostYear  = 294276
)

// example is the document's own source.
const example = "Rule EU 1977 1980 - Apr Sun>=1 1:00u 1:00 S\n" +
	"Rule EU 1981 max - Mar lastSun 1:00u 1:00 S\n" +
	"Rule EU 1996 max - Oct lastSun 1:00u 0:00 -\n" +
	"Zone Europe/Berlin 0:53:28 - LMT 1893 Apr 1 0:00\n" +
	"1:00 EU CE%sT\n" +
	"Link Europe/Berlin Berlin\n" +
	"Zone Asia/East 5:30 - %z 1990 Jan 1 0:00\n" +
	"5:45 - %z\n"

func book(t *testing.T) *names.Book {
	t.Helper()
	b, _, _, e := names.Load(example)
	if e != api.OK {
		t.Fatal("Load", e)
	}
	return b
}

func found(t *testing.T, name string) comp.Table {
	t.Helper()
	z, e := book(t).Find(name)
	if e != api.OK {
		t.Fatal("Find", name, e)
	}
	return z
}

// tables is zones that can be: without shifts and with many, as far off as may be.
func tables(t *testing.T) []comp.Table {
	all := []comp.Table{zone.UTC(), {}, found(t, "Berlin"), found(t, "Asia/East"), {First: api.Tran{Off: 57600, Abbr: "EAST"}}, {First: api.Tran{Off: -57600, Abbr: "WEST"}},
		{First: api.Tran{Off: 57599, Abbr: "E"}}, {First: api.Tran{Off: -57599, Abbr: "W"}}, {First: api.Tran{Off: 1, Abbr: "ONE"}}, {First: api.Tran{Off: -60, Abbr: "-00:01"}}}
	many := comp.Table{First: api.Tran{Off: -57600, Abbr: "A"}}
	for i := range int64(40) {
		many.Trans = append(many.Trans, api.Tran{At: since1970 + i*7001, Off: (i*7919)%57600 - 20000, Dst: i%2 == 0, Abbr: string(rune('a' + i%5))})
	}
	// Twice the same name: the later one of two readings is not told by it.
	same := comp.Table{First: api.Tran{Off: 7200, Abbr: "X"}, Trans: []api.Tran{{At: since1970, Off: 3600, Abbr: "X"}}}
	return append(all, many, same)
}

// wrongTables is zones that can not be.
func wrongTables() []comp.Table {
	return []comp.Table{
		{First: api.Tran{At: 1}},
		{First: api.Tran{Off: 57601}},
		{First: api.Tran{Off: -57601}},
		{Trans: []api.Tran{{At: 5}, {At: 5}}},
		{Trans: []api.Tran{{Off: 60000}}},
		{Foot: comp.Foot{Has: true}},
		{Foot: comp.Foot{From: 7}},
	}
}

// styles is all those that can be.
func styles() []api.Style {
	var l []api.Style
	for out := range 2 {
		for order := range 3 {
			for span := range 3 {
				l = append(l, api.Style{Out: out, Order: order, Span: span})
			}
		}
	}
	return l
}

// outs is all those that differ in dates.
func outs() []api.Style {
	return slices.DeleteFunc(styles(), func(s api.Style) bool { return s.Span != 0 })
}

// wrongStyles is some that can not be, each by one of its parts alone.
func wrongStyles() []api.Style {
	var l []api.Style
	for _, n := range []int{-1, 3, math.MinInt, math.MaxInt} {
		l = append(l, api.Style{Out: n}, api.Style{Order: n}, api.Style{Span: n}, api.Style{Out: n, Order: 2, Span: 2}, api.Style{Out: 1, Order: n, Span: 2}, api.Style{Out: 1, Order: 2, Span: n})
	}
	return append(l, api.Style{Out: 2})
}

// seconds is those since 1970 at a day's beginning.
func seconds(y int, m time.Month, d int) int64 {
	return time.Date(y, m, d, 0, 0, 0, 0, time.UTC).Unix()
}

// at is the stamp of a day and microseconds.
func at(y int, m time.Month, d int, us int64) api.Stamp {
	return api.Stamp{U: (seconds(y, m, d)-since1970)*micro + us}
}

// on is the date of a day.
func on(y int, m time.Month, d int) api.Date {
	return api.Date{D: (seconds(y, m, d) - since1970) / 86400}
}

func first() api.Stamp { return at(leastYear, 1, 1, 0) }
func last() api.Stamp  { return at(mostYear, 12, 31, dayMicro-1) }

// rightDate, rightStamp and rightSpan are the document's words.
func rightDate(d api.Date) bool {
	if d.Inf == 1 || d.Inf == -1 {
		return d.D == 0
	}
	return d.Inf == 0 && d.D >= on(leastYear, 1, 1).D && d.D <= on(mostYear, 12, 31).D
}

func rightStamp(t api.Stamp) bool {
	if t.Inf == 1 || t.Inf == -1 {
		return t.U == 0
	}
	return t.Inf == 0 && t.U >= first().U && t.U <= last().U
}

func rightSpan(s api.Span) bool {
	if s.Inf == 1 || s.Inf == -1 {
		return s.M == 0 && s.D == 0 && s.U == 0
	}
	return s.Inf == 0 && s.M >= -mostCount && s.M <= mostCount && s.D >= -mostCount && s.D <= mostCount && s.U > math.MinInt64
}

// dates is those about all edges, and such as can not be.
func dates() []api.Date {
	l := []api.Date{{Inf: 1}, {Inf: -1}, {Inf: 2}, {Inf: -2}, {Inf: 1, D: 1}, {Inf: -1, D: -1}, {Inf: math.MaxInt}, {Inf: math.MinInt}, {D: math.MinInt64}, {D: math.MaxInt64}}
	for _, y := range []int{leastYear, -1000, -999, -998, -99, -9, -1, 0, 1, 9, 10, 99, 100, 999, 1000, 1999, 2000, 2024, 9999, 10000, 99999, 100000, mostYear} {
		for by := range int64(5) {
			l = append(l, api.Date{D: on(y, 1, 1).D + by - 2}, api.Date{D: on(y, 12, 31).D + by - 2}, api.Date{D: on(y, 2, 28).D + by - 2}, api.Date{D: on(y, 10, 10).D + by - 2})
		}
	}
	return l
}

// stamps is those about all edges, and such as can not be.
func stamps() []api.Stamp {
	l := []api.Stamp{{Inf: 1}, {Inf: -1}, {Inf: 2}, {Inf: -2}, {Inf: 1, U: 1}, {Inf: -1, U: -1}, {Inf: math.MaxInt}, {Inf: math.MinInt},
		{U: math.MinInt64}, {U: math.MaxInt64}, {U: first().U - 1}, {U: last().U + 1}}
	for _, d := range dates() {
		if d.Inf != 0 || !rightDate(d) {
			continue
		}
		for _, us := range []int64{0, 1, 10, 500000, micro, 59*micro + 999999, 60 * micro, hour - 1, hour, 9*hour + 5, 12*hour + 34*60*micro + 56*micro + 789000, dayMicro - micro, dayMicro - 1} {
			l = append(l, api.Stamp{U: d.D*dayMicro + us})
		}
	}
	for _, us := range []int64{hour, 57599 * micro, 57600 * micro} {
		for _, by := range []int64{-1, 0, 1} {
			l = append(l, api.Stamp{U: first().U + us + by}, api.Stamp{U: last().U - us + by})
		}
	}
	return append(l, at(2024, 3, 31, hour-1), at(2024, 3, 31, hour), at(2024, 10, 27, hour-1), at(2024, 10, 27, hour), at(1893, 3, 31, 86400*micro-3209*micro))
}

// some is a stamp that can be.
func some(r *rand.Rand) api.Stamp {
	switch r.Intn(4) {
	case 0: // near the shifts of clocks
		return at(1990+r.Intn(100), []time.Month{3, 10}[r.Intn(2)], 24+r.Intn(8), r.Int63n(6*hour))
	case 1:
		return at(2000, 1, 1, r.Int63n(4*dayMicro))
	case 2:
		return at(r.Intn(5000)-1500, time.Month(1+r.Intn(12)), 1+r.Intn(31), r.Int63n(86400)*micro)
	}
	return api.Stamp{U: first().U + int64(r.Uint64()%uint64(last().U-first().U))}
}

// spans is intervals of all edges, and such as can not be.
func spans() []api.Span {
	l := []api.Span{{Inf: 1}, {Inf: -1}, {Inf: 2}, {Inf: -2}, {Inf: 1, M: 1}, {Inf: -1, D: 1}, {Inf: 1, U: 1}}
	for _, m := range []int64{0, 1, -1, 2, -2, 11, -11, 12, -12, 13, -13, 24, -25, mostCount, -mostCount, mostCount + 1, -mostCount - 1, math.MaxInt64, math.MinInt64} {
		for _, d := range []int64{0, 1, -1, 2, -31, 100, mostCount, -mostCount, mostCount + 1, -mostCount - 1, math.MinInt64, math.MaxInt64} {
			for _, u := range []int64{0, 1, -1, 500000, -500000, micro, -micro, 60 * micro, -60 * micro, 61*micro + 10, hour, -hour, 10*hour + 1, -(hour + 5*60*micro + 6*micro + 500000),
				dayMicro, -dayMicro, 100 * hour, math.MaxInt64, -math.MaxInt64, math.MinInt64} {
				l = append(l, api.Span{M: m, D: d, U: u})
			}
		}
	}
	return l
}

// someSpan is an interval that can be.
func someSpan(r *rand.Rand) api.Span {
	pick := func(most int64) int64 {
		switch r.Intn(4) {
		case 0:
			return 0
		case 1:
			return r.Int63n(most) - r.Int63n(most)
		}
		return r.Int63n(80) - 40
	}
	s := api.Span{M: pick(mostCount), D: pick(mostCount), U: pick(math.MaxInt64)}
	switch r.Intn(3) {
	case 0:
		s.U = (r.Int63n(200) - 100) * hour
	case 1:
		s.U = (r.Int63n(20000) - 10000) * micro / 10
	}
	return s
}

// dated is a date's text by its parts, and its era.
func dated(y int, m, d int, s api.Style) (string, string) {
	era := ""
	if y <= 0 {
		y, era = 1-y, " BC"
	}
	switch (api.Style{Out: s.Out, Order: s.Order}) {
	case api.Style{Out: api.SQL, Order: api.MDY}:
		return fmt.Sprintf("%02d/%02d/%04d", m, d, y), era
	case api.Style{Out: api.SQL, Order: api.DMY}:
		return fmt.Sprintf("%02d/%02d/%04d", d, m, y), era
	case api.Style{Out: api.SQL, Order: api.YMD}:
		return fmt.Sprintf("%04d/%02d/%02d", y, m, d), era
	}
	return fmt.Sprintf("%04d-%02d-%02d", y, m, d), era
}

// ends is the texts of the Infs.
func ends() map[int]string { return map[int]string{1: "infinity", -1: "-infinity"} }

// dateText is what Date must tell.
func dateText(d api.Date, s api.Style) (string, api.Errno) {
	if !rightDate(d) {
		return "", api.ErrArg
	}
	if d.Inf != 0 {
		return ends()[d.Inf], api.OK
	}
	x := time.Unix(d.D*86400+since1970, 0).UTC()
	text, era := dated(x.Year(), int(x.Month()), x.Day(), s)
	return text + era, api.OK
}

// fraction is what stands behind seconds.
func fraction(us int64) string {
	return strings.TrimRight(strings.TrimRight(fmt.Sprintf(".%06d", us), "0"), ".")
}

// timeOf is that of a day, by package time.
func timeOf(x time.Time) string {
	return x.Format("15:04:05") + fraction(int64(x.Nanosecond()/1000))
}

// stampText is what Stamp must tell, with what stands behind the time.
func stampText(t api.Stamp, s api.Style, behind string) (string, api.Errno) {
	if !rightStamp(t) {
		return "", api.ErrArg
	}
	if t.Inf != 0 {
		return ends()[t.Inf], api.OK
	}
	sec, us := t.U/micro, t.U%micro
	if us < 0 {
		sec, us = sec-1, us+micro
	}
	x := time.Unix(sec+since1970, us*1000).UTC()
	text, era := dated(x.Year(), int(x.Month()), x.Day(), s)
	return text + " " + timeOf(x) + behind + era, api.OK
}

// offsetText is seconds ahead, as short as may be.
func offsetText(off int64) string {
	sign := "+"
	if off < 0 {
		sign, off = "-", -off
	}
	text := fmt.Sprintf("%s%02d:%02d:%02d", sign, off/3600, off/60%60, off%60)
	return strings.TrimSuffix(strings.TrimSuffix(text, ":00"), ":00")
}

// standing is how clocks stand at an instant that can be and has no Inf.
func standing(t *testing.T, z comp.Table, x api.Stamp) api.Tran {
	t.Helper()
	sec := x.U / micro
	if x.U%micro < 0 {
		sec--
	}
	how, e := zone.At(z, sec+since1970)
	if e != api.OK {
		t.Fatal("At", z.Name, x, e)
	}
	return how
}

// tzText is what Tz must tell by a zone that can be.
func tzText(t *testing.T, x api.Stamp, z comp.Table, s api.Style) (string, api.Errno) {
	t.Helper()
	if !rightStamp(x) || x.Inf != 0 {
		return stampText(x, s, "")
	}
	how := standing(t, z, x)
	l := api.Stamp{U: x.U + how.Off*micro}
	// The sum goes round, if clocks would say more than can be.
	if !rightStamp(l) || how.Off > 0 && l.U < x.U {
		return "", api.ErrRange
	}
	if s.Out == api.SQL {
		return stampText(l, s, " "+how.Abbr)
	}
	if how.Off == 57600 || how.Off == -57600 {
		return "", api.ErrRange
	}
	return stampText(l, s, offsetText(how.Off))
}

// long is a time of any length, its hours as a verb says.
func long(verb string, us int64) string {
	return fmt.Sprintf(verb+":%02d:%02d", us/hour, us/(60*micro)%60, us/micro%60) + fraction(us%micro)
}

// size is how far a number is from nought.
func size(n int64) int64 {
	if n < 0 {
		return -n
	}
	return n
}

// minus is the sign of a number below nought.
func minus(n int64, other string) string {
	if n < 0 {
		return "-"
	}
	return other
}

// inWords, bySQL and byISO are what Span must tell of an interval without Inf.
func inWords(x api.Span) string {
	var words []string
	back := false
	put := func(n int64, text string) {
		if n > 0 && back {
			text = "+" + text
		}
		words = append(words, text)
		back = n < 0
	}
	for i, n := range []int64{x.M / 12, x.M % 12, x.D} {
		unit := []string{"year", "mon", "day"}[i]
		switch n {
		case 0:
		case 1:
			put(n, "1 "+unit)
		default:
			put(n, fmt.Sprint(n, " ", unit, "s"))
		}
	}
	if x.U != 0 || words == nil {
		put(x.U, minus(x.U, "")+long("%02d", size(x.U)))
	}
	return strings.Join(words, " ")
}

func bySQL(x api.Span) string {
	m := size(x.M)
	return fmt.Sprintf("%s%d-%d %s%d %s", minus(x.M, "+"), m/12, m%12, minus(x.D, "+"), size(x.D), minus(x.U, "+")+long("%d", size(x.U)))
}

func byISO(x api.Span) string {
	text := ""
	put := func(n int64, part, letter string) {
		if n != 0 {
			text += minus(n, "") + part + letter
		}
	}
	whole := func(n int64, letter string) { put(n, fmt.Sprint(size(n)), letter) }
	whole(x.M/12, "Y")
	whole(x.M%12, "M")
	whole(x.D, "D")
	if x.U != 0 {
		text += "T"
	}
	whole(x.U/hour, "H")
	whole(x.U/(60*micro)%60, "M")
	us := size(x.U % (60 * micro))
	put(x.U%(60*micro), fmt.Sprint(us/micro)+fraction(us%micro), "S")
	if text == "" {
		text = "T0S"
	}
	return "P" + text
}

// spanText is what Span must tell.
func spanText(x api.Span, s api.Style) (string, api.Errno) {
	if !rightSpan(x) {
		return "", api.ErrArg
	}
	if x.Inf != 0 {
		return ends()[x.Inf], api.OK
	}
	return []func(api.Span) string{inWords, bySQL, byISO}[s.Span](x), api.OK
}

func checkDate(t *testing.T, d api.Date, s api.Style, want string, e api.Errno) {
	t.Helper()
	if got, f := show.Date(d, s); got != want || f != e {
		t.Fatalf("Date(%v, %v) is %q, %d, not %q, %d", d, s, got, f, want, e)
	}
}

func checkStamp(t *testing.T, x api.Stamp, s api.Style, want string, e api.Errno) {
	t.Helper()
	if got, f := show.Stamp(x, s); got != want || f != e {
		t.Fatalf("Stamp(%v, %v) is %q, %d, not %q, %d", x, s, got, f, want, e)
	}
}

func checkTz(t *testing.T, x api.Stamp, z comp.Table, s api.Style, want string, e api.Errno) {
	t.Helper()
	if got, f := show.Tz(x, z, s); got != want || f != e {
		t.Fatalf("Tz(%v, %q, %v) is %q, %d, not %q, %d", x, z.Name, s, got, f, want, e)
	}
}

func checkSpan(t *testing.T, x api.Span, s api.Style, want string, e api.Errno) {
	t.Helper()
	if got, f := show.Span(x, s); got != want || f != e {
		t.Fatalf("Span(%v, %v) is %q, %d, not %q, %d", x, s, got, f, want, e)
	}
}

func checkValue(t *testing.T, v api.Value, z comp.Table, s api.Style, want string, e api.Errno) {
	t.Helper()
	if got, f := show.Value(v, z, s); got != want || f != e {
		t.Fatalf("Value(%v, %q, %v) is %q, %d, not %q, %d", v, z.Name, s, got, f, want, e)
	}
}

// P19.1: texts that are written out here.
func TestDates(t *testing.T) {
	iso, ymd, dmy, mdy := api.Style{Order: api.MDY}, api.Style{Out: api.SQL}, api.Style{Out: api.SQL, Order: api.DMY}, api.Style{Out: api.SQL, Order: api.MDY}
	for _, c := range []struct {
		y                  int
		m                  time.Month
		d                  int
		iso, ymd, dmy, mdy string
	}{
		{2024, 3, 31, "2024-03-31", "2024/03/31", "31/03/2024", "03/31/2024"},
		{-43, 3, 15, "0044-03-15 BC", "0044/03/15 BC", "15/03/0044 BC", "03/15/0044 BC"},
		{1, 1, 1, "0001-01-01", "0001/01/01", "01/01/0001", "01/01/0001"},
		{0, 12, 31, "0001-12-31 BC", "0001/12/31 BC", "31/12/0001 BC", "12/31/0001 BC"},
		{0, 2, 29, "0001-02-29 BC", "0001/02/29 BC", "29/02/0001 BC", "02/29/0001 BC"},
		{-1, 1, 2, "0002-01-02 BC", "0002/01/02 BC", "02/01/0002 BC", "01/02/0002 BC"},
		{999, 10, 9, "0999-10-09", "0999/10/09", "09/10/0999", "10/09/0999"},
		{10000, 1, 1, "10000-01-01", "10000/01/01", "01/01/10000", "01/01/10000"},
		{mostYear, 12, 31, "294276-12-31", "294276/12/31", "31/12/294276", "12/31/294276"},
		{leastYear, 1, 1, "4713-01-01 BC", "4713/01/01 BC", "01/01/4713 BC", "01/01/4713 BC"},
	} {
		d := on(c.y, c.m, c.d)
		checkDate(t, d, iso, c.iso, api.OK)
		checkDate(t, d, ymd, c.ymd, api.OK)
		checkDate(t, d, dmy, c.dmy, api.OK)
		checkDate(t, d, mdy, c.mdy, api.OK)
	}
	for us, time := range map[int64]string{0: "00:00:00", 1: "00:00:00.000001", 500000: "00:00:00.5", hour + 2*60*micro + 3*micro + 120: "01:02:03.00012", dayMicro - 1: "23:59:59.999999"} {
		checkStamp(t, at(2024, 3, 31, us), iso, "2024-03-31 "+time, api.OK)
		checkStamp(t, at(2024, 3, 31, us), dmy, "31/03/2024 "+time, api.OK)
		checkStamp(t, at(-43, 3, 15, us), iso, "0044-03-15 "+time+" BC", api.OK)
		checkStamp(t, at(-43, 3, 15, us), mdy, "03/15/0044 "+time+" BC", api.OK)
		checkStamp(t, at(mostYear, 12, 31, us), ymd, "294276/12/31 "+time, api.OK)
	}
}

// P19.1: all edges by all styles, and what can not be.
func TestDatesAndStamps(t *testing.T) {
	r := rand.New(rand.NewSource(191))
	for _, s := range outs() {
		for _, d := range dates() {
			want, e := dateText(d, s)
			checkDate(t, d, s, want, e)
		}
		for _, x := range stamps() {
			want, e := stampText(x, s, "")
			checkStamp(t, x, s, want, e)
		}
		for range 3000 {
			x := some(r)
			want, e := stampText(x, s, "")
			checkStamp(t, x, s, want, e)
		}
	}
	for inf, text := range ends() {
		for _, s := range styles() {
			checkDate(t, api.Date{Inf: inf}, s, text, api.OK)
			checkStamp(t, api.Stamp{Inf: inf}, s, text, api.OK)
			checkSpan(t, api.Span{Inf: inf}, s, text, api.OK)
			checkTz(t, api.Stamp{Inf: inf}, found(t, "Berlin"), s, text, api.OK)
		}
	}
}

// P19.2: texts that are written out here.
func TestInstants(t *testing.T) {
	z := found(t, "Berlin")
	iso, dmy := api.Style{}, api.Style{Out: api.SQL, Order: api.DMY}
	for _, c := range []struct {
		x        api.Stamp
		z        comp.Table
		iso, dmy string
	}{
		{at(2024, 3, 31, hour/2), z, "2024-03-31 01:30:00+01", "31/03/2024 01:30:00 CET"},
		{at(2024, 3, 31, hour), z, "2024-03-31 03:00:00+02", "31/03/2024 03:00:00 CEST"},
		{at(2024, 3, 31, hour-1), z, "2024-03-31 01:59:59.999999+01", "31/03/2024 01:59:59.999999 CET"},
		{at(2024, 10, 27, hour/2), z, "2024-10-27 02:30:00+02", "27/10/2024 02:30:00 CEST"},
		{at(2024, 10, 27, 3*hour/2), z, "2024-10-27 02:30:00+01", "27/10/2024 02:30:00 CET"},
		{at(2024, 7, 1, 10*hour), z, "2024-07-01 12:00:00+02", "01/07/2024 12:00:00 CEST"},
		{at(2024, 12, 31, 23*hour), z, "2025-01-01 00:00:00+01", "01/01/2025 00:00:00 CET"},
		{at(-43, 3, 15, 0), z, "0044-03-15 00:53:28+00:53:28 BC", "15/03/0044 00:53:28 LMT BC"},
		{at(0, 12, 31, dayMicro-1), z, "0001-01-01 00:53:27.999999+00:53:28", "01/01/0001 00:53:27.999999 LMT"},
		{at(1980, 1, 1, 0), found(t, "Asia/East"), "1980-01-01 05:30:00+05:30", "01/01/1980 05:30:00 +0530"},
		{at(2000, 1, 1, 5), comp.Table{First: api.Tran{Off: -1}}, "1999-12-31 23:59:59.000005-00:00:01", "31/12/1999 23:59:59.000005 "},
		{at(2000, 1, 1, 5), comp.Table{First: api.Tran{Off: -3600, Abbr: "a b"}}, "1999-12-31 23:00:00.000005-01", "31/12/1999 23:00:00.000005 a b"},
		{at(2000, 1, 1, 5), zone.UTC(), "2000-01-01 00:00:00.000005+00", "01/01/2000 00:00:00.000005 UTC"},
	} {
		checkTz(t, c.x, c.z, iso, c.iso, api.OK)
		checkTz(t, c.x, c.z, dmy, c.dmy, api.OK)
	}
}

// P19.2: all edges by all styles and zones, and what can not be.
func TestZones(t *testing.T) {
	r := rand.New(rand.NewSource(192))
	seen := map[api.Errno]int{}
	for _, z := range tables(t) {
		for _, s := range outs() {
			l := stamps()
			for range 500 {
				l = append(l, some(r))
			}
			for _, x := range l {
				want, e := tzText(t, x, z, s)
				checkTz(t, x, z, s, want, e)
				seen[e]++
			}
		}
	}
	if seen[api.OK] == 0 || seen[api.ErrRange] == 0 || seen[api.ErrArg] == 0 {
		t.Error("not all was seen:", seen)
	}
}

// P19.2: an offset of 16 hours is none, but what clocks are called can be told; what clocks say may be none.
func TestFarOff(t *testing.T) {
	iso, sql := api.Style{}, api.Style{Out: api.SQL}
	east, west := comp.Table{First: api.Tran{Off: 57600, Abbr: "E"}}, comp.Table{First: api.Tran{Off: -57600, Abbr: "W"}}
	checkTz(t, at(2024, 3, 31, 0), east, iso, "", api.ErrRange)
	checkTz(t, at(2024, 3, 31, 0), west, iso, "", api.ErrRange)
	checkTz(t, at(2024, 3, 31, 0), east, sql, "2024/03/31 16:00:00 E", api.OK)
	checkTz(t, at(2024, 3, 31, 0), west, sql, "2024/03/30 08:00:00 W", api.OK)
	checkTz(t, last(), east, sql, "", api.ErrRange)
	checkTz(t, first(), west, sql, "", api.ErrRange)
	checkTz(t, last(), west, sql, "294276/12/31 07:59:59.999999 W", api.OK)
	checkTz(t, first(), east, sql, "4713/01/01 16:00:00 E BC", api.OK)
	checkTz(t, api.Stamp{Inf: 1}, east, iso, "infinity", api.OK)
	near := comp.Table{First: api.Tran{Off: 57599}}
	checkTz(t, at(2024, 3, 31, 0), near, iso, "2024-03-31 15:59:59+15:59:59", api.OK)
}

// P19.2: clocks of Berlin, by package time.
func TestBerlin(t *testing.T) {
	z := found(t, "Berlin")
	place, err := time.LoadLocation("Europe/Berlin")
	if err != nil {
		t.Fatal(err)
	}
	r := rand.New(rand.NewSource(193))
	for range 20000 {
		sec := seconds(1997+r.Intn(300), time.Month(1+r.Intn(12)), 1+r.Intn(31)) + r.Int63n(86400)
		x := api.Stamp{U: (sec-since1970)*micro + 5}
		there := time.Unix(sec, 5000).In(place)
		checkTz(t, x, z, api.Style{}, there.Format("2006-01-02 15:04:05.000000-07"), api.OK)
		checkTz(t, x, z, api.Style{Out: api.SQL, Order: api.MDY}, there.Format("01/02/2006 15:04:05.000000 MST"), api.OK)
	}
}

// P19.3: texts that are written out here.
func TestSpans(t *testing.T) {
	for _, c := range []struct {
		x     api.Span
		texts [3]string
	}{
		{api.Span{}, [3]string{"00:00:00", "+0-0 +0 +0:00:00", "PT0S"}},
		{api.Span{M: 14, D: 3, U: -14706500000}, [3]string{"1 year 2 mons 3 days -04:05:06.5", "+1-2 +3 -4:05:06.5", "P1Y2M3DT-4H-5M-6.5S"}},
		{api.Span{M: -1, D: 1}, [3]string{"-1 mons +1 day", "-0-1 +1 +0:00:00", "P-1M1D"}},
		{api.Span{M: -1, D: 1, U: 1}, [3]string{"-1 mons +1 day 00:00:00.000001", "-0-1 +1 +0:00:00.000001", "P-1M1DT0.000001S"}},
		{api.Span{M: -14, D: -1, U: hour}, [3]string{"-1 years -2 mons -1 days +01:00:00", "-1-2 -1 +1:00:00", "P-1Y-2M-1DT1H"}},
		{api.Span{M: -14, U: hour}, [3]string{"-1 years -2 mons +01:00:00", "-1-2 +0 +1:00:00", "P-1Y-2MT1H"}},
		{api.Span{M: -12, D: 2, U: -1}, [3]string{"-1 years +2 days -00:00:00.000001", "-1-0 +2 -0:00:00.000001", "P-1Y2DT-0.000001S"}},
		{api.Span{M: 1, D: -1, U: 60 * micro}, [3]string{"1 mon -1 days +00:01:00", "+0-1 -1 +0:01:00", "P1M-1DT1M"}},
		{api.Span{M: 12, D: 1}, [3]string{"1 year 1 day", "+1-0 +1 +0:00:00", "P1Y1D"}},
		{api.Span{M: 25}, [3]string{"2 years 1 mon", "+2-1 +0 +0:00:00", "P2Y1M"}},
		{api.Span{D: -1}, [3]string{"-1 days", "+0-0 -1 +0:00:00", "P-1D"}},
		{api.Span{D: 2}, [3]string{"2 days", "+0-0 +2 +0:00:00", "P2D"}},
		{api.Span{U: -500000}, [3]string{"-00:00:00.5", "+0-0 +0 -0:00:00.5", "PT-0.5S"}},
		{api.Span{U: 100 * hour}, [3]string{"100:00:00", "+0-0 +0 +100:00:00", "PT100H"}},
		{api.Span{U: 5*60*micro + 6*micro}, [3]string{"00:05:06", "+0-0 +0 +0:05:06", "PT5M6S"}},
		{api.Span{U: -hour - 6*micro}, [3]string{"-01:00:06", "+0-0 +0 -1:00:06", "PT-1H-6S"}},
		{api.Span{M: mostCount, D: mostCount, U: math.MaxInt64}, [3]string{"178956970 years 7 mons 2147483647 days 2562047788:00:54.775807",
			"+178956970-7 +2147483647 +2562047788:00:54.775807", "P178956970Y7M2147483647DT2562047788H54.775807S"}},
		{api.Span{M: -mostCount, D: -mostCount, U: -math.MaxInt64}, [3]string{"-178956970 years -7 mons -2147483647 days -2562047788:00:54.775807",
			"-178956970-7 -2147483647 -2562047788:00:54.775807", "P-178956970Y-7M-2147483647DT-2562047788H-54.775807S"}},
	} {
		for i, want := range c.texts {
			checkSpan(t, c.x, api.Style{Span: i}, want, api.OK)
			checkSpan(t, c.x, api.Style{Out: 1, Order: 2, Span: i}, want, api.OK)
		}
	}
}

// P19.3: all edges by all styles, and what can not be.
func TestAllSpans(t *testing.T) {
	r := rand.New(rand.NewSource(194))
	for i := range 3 {
		s := api.Style{Span: i}
		for _, x := range spans() {
			want, e := spanText(x, s)
			checkSpan(t, x, s, want, e)
		}
		for range 100000 {
			x := someSpan(r)
			want, e := spanText(x, s)
			checkSpan(t, x, s, want, e)
		}
	}
}

// P19.4: a value of each kind, with its text.
func TestValues(t *testing.T) {
	z := found(t, "Berlin")
	s := api.Style{Out: api.SQL, Order: api.DMY, Span: api.ISOSpan}
	full := strings.Repeat("\xff\x00ä ", mostText)[:mostText]
	for _, c := range []struct {
		v    api.Value
		want string
	}{
		{api.Value{}, "null"},
		{api.Value{K: api.KBool}, "false"},
		{api.Value{K: api.KBool, Bool: true}, "true"},
		{api.Value{K: api.KInt}, "0"},
		{api.Value{K: api.KInt, Int: -7}, "-7"},
		{api.Value{K: api.KInt, Int: math.MinInt64}, "-9223372036854775808"},
		{api.Value{K: api.KInt, Int: math.MaxInt64}, "9223372036854775807"},
		{api.Value{K: api.KDec}, "0"},
		{api.Value{K: api.KDec, Int: -5, Scale: 1}, "-0.5"},
		{api.Value{K: api.KDec, Int: 1200, Scale: 2}, "12.00"},
		{api.Value{K: api.KDec, Int: math.MinInt64, Scale: 9}, "-9223372036.854775808"},
		{api.Value{K: api.KText}, ""},
		{api.Value{K: api.KText, Text: "null"}, "null"},
		{api.Value{K: api.KText, Text: " a'\n\"ß"}, " a'\n\"ß"},
		{api.Value{K: api.KText, Text: full}, full},
		{api.Value{K: api.KDate, Date: on(2024, 3, 31)}, "31/03/2024"},
		{api.Value{K: api.KDate, Date: api.Date{Inf: -1}}, "-infinity"},
		{api.Value{K: api.KStamp, Stamp: at(2024, 3, 31, hour)}, "31/03/2024 01:00:00"},
		{api.Value{K: api.KStamp, Stamp: api.Stamp{Inf: 1}}, "infinity"},
		{api.Value{K: api.KTz, Stamp: at(2024, 3, 31, hour)}, "31/03/2024 03:00:00 CEST"},
		{api.Value{K: api.KTz, Stamp: api.Stamp{Inf: -1}}, "-infinity"},
		{api.Value{K: api.KSpan}, "PT0S"},
		{api.Value{K: api.KSpan, Span: api.Span{M: 14, U: -1}}, "P1Y2MT-0.000001S"},
		{api.Value{K: api.KSpan, Span: api.Span{Inf: 1}}, "infinity"},
	} {
		if !show.RightValue(c.v) {
			t.Error("RightValue", c.v)
		}
		checkValue(t, c.v, z, s, c.want, api.OK)
	}
	checkValue(t, api.Value{K: api.KTz, Stamp: last()}, comp.Table{First: api.Tran{Off: 1}}, s, "", api.ErrRange)
	checkValue(t, api.Value{K: api.KTz}, comp.Table{First: api.Tran{Off: 57600}}, api.Style{}, "", api.ErrRange)
}

// parts is a value with one part that is not nought, each.
func parts() []api.Value {
	return []api.Value{{Bool: true}, {Int: 1}, {Int: math.MinInt64}, {Scale: 1}, {Scale: -1}, {Text: "x"}, {Date: api.Date{D: 1}}, {Date: api.Date{Inf: 1}}, {Stamp: api.Stamp{U: 1}}, {Stamp: api.Stamp{Inf: -1}},
		{Span: api.Span{M: 1}}, {Span: api.Span{D: 1}}, {Span: api.Span{U: 1}}, {Span: api.Span{Inf: 1}}}
}

// has: does such a kind use the part that is not nought?
func has(k int, v api.Value) bool {
	switch k {
	case api.KBool:
		return v.Bool
	case api.KInt:
		return v.Int != 0
	case api.KDec:
		return v.Int != 0 || v.Scale == 1
	case api.KText:
		return v.Text != ""
	case api.KDate:
		return v.Date != api.Date{}
	case api.KStamp, api.KTz:
		return v.Stamp != api.Stamp{}
	case api.KSpan:
		return v.Span != api.Span{}
	}
	return false
}

// P19.4: a value has no part of another kind.
func TestRightValue(t *testing.T) {
	z := found(t, "Berlin")
	check := func(v api.Value, want bool) {
		t.Helper()
		if got := show.RightValue(v); got != want {
			t.Error("RightValue", v, got)
		}
		if !want {
			checkValue(t, v, z, api.Style{}, "", api.ErrArg)
		}
	}
	for k := range 9 {
		check(api.Value{K: k}, true)
		for _, v := range parts() {
			v.K = k
			check(v, has(k, v))
		}
	}
	for _, k := range []int{-1, 9, 10, math.MaxInt, math.MinInt} {
		check(api.Value{K: k}, false)
		for _, v := range parts() {
			v.K = k
			check(v, false)
		}
	}
	for scale := -3; scale < 14; scale++ {
		check(api.Value{K: api.KDec, Int: 5, Scale: scale}, scale >= 0 && scale <= 9)
	}
	check(api.Value{K: api.KDec, Scale: math.MinInt}, false)
	check(api.Value{K: api.KText, Text: strings.Repeat("x", mostText)}, true)
	check(api.Value{K: api.KText, Text: strings.Repeat("x", mostText+1)}, false)
	check(api.Value{K: api.KText, Text: strings.Repeat("ä", mostText/2)}, true)
	check(api.Value{K: api.KText, Text: strings.Repeat("ä", mostText/2) + "x"}, false)
	for _, d := range dates() {
		check(api.Value{K: api.KDate, Date: d}, rightDate(d))
	}
	for _, x := range stamps() {
		check(api.Value{K: api.KStamp, Stamp: x}, rightStamp(x))
		check(api.Value{K: api.KTz, Stamp: x}, rightStamp(x))
	}
	for _, x := range spans() {
		check(api.Value{K: api.KSpan, Span: x}, rightSpan(x))
	}
}

// P19.4: which styles can be; one that can not is refused by all, whatever the part that it is wrong by.
func TestStyles(t *testing.T) {
	for _, s := range styles() {
		if !show.Right(s) {
			t.Error("Right", s)
		}
	}
	for _, s := range wrongStyles() {
		if show.Right(s) {
			t.Error("Right", s)
		}
		for inf := -1; inf < 2; inf++ {
			checkDate(t, api.Date{Inf: inf}, s, "", api.ErrArg)
			checkStamp(t, api.Stamp{Inf: inf}, s, "", api.ErrArg)
			checkTz(t, api.Stamp{Inf: inf}, zone.UTC(), s, "", api.ErrArg)
			checkSpan(t, api.Span{Inf: inf}, s, "", api.ErrArg)
		}
		for k := range 9 {
			checkValue(t, api.Value{K: k}, zone.UTC(), s, "", api.ErrArg)
		}
		// What clocks say can be none here, but the style is told first.
		checkTz(t, last(), comp.Table{First: api.Tran{Off: 1}}, s, "", api.ErrArg)
	}
}

// A zone that can not be is refused, also where nothing is asked of it.
func TestWrongTables(t *testing.T) {
	for _, z := range wrongTables() {
		for _, s := range styles() {
			for inf := -1; inf < 2; inf++ {
				checkTz(t, api.Stamp{Inf: inf}, z, s, "", api.ErrArg)
			}
			for k := range 9 {
				checkValue(t, api.Value{K: k}, z, s, "", api.ErrArg)
			}
		}
	}
}

// P19.4: the others are as their own calls write them, by each style and zone.
func TestValuesAsTheirKinds(t *testing.T) {
	r := rand.New(rand.NewSource(195))
	for _, z := range tables(t) {
		for _, s := range styles() {
			for range 300 {
				x, y := some(r), someSpan(r)
				d := api.Date{D: x.U / dayMicro}
				want, e := dateText(d, s)
				checkValue(t, api.Value{K: api.KDate, Date: d}, z, s, want, e)
				want, e = stampText(x, s, "")
				checkValue(t, api.Value{K: api.KStamp, Stamp: x}, z, s, want, e)
				want, e = tzText(t, x, z, s)
				checkValue(t, api.Value{K: api.KTz, Stamp: x}, z, s, want, e)
				want, e = spanText(y, s)
				checkValue(t, api.Value{K: api.KSpan, Span: y}, z, s, want, e)
			}
		}
	}
}

// P19.5: dates, stamps and intervals, there and back by each style.
func TestThereAndBack(t *testing.T) {
	r := rand.New(rand.NewSource(196))
	for _, s := range styles() {
		all := stamps()
		for range 3000 {
			all = append(all, some(r))
		}
		for _, d := range dates() {
			text, e := show.Date(d, s)
			if got, f := read.Date(text, s); e == api.OK && (got != d || f != api.OK) {
				t.Fatal("Date", d, s, text, got, f)
			}
		}
		for _, x := range all {
			text, e := show.Stamp(x, s)
			if got, f := read.Stamp(text, s); e == api.OK && (got != x || f != api.OK) {
				t.Fatal("Stamp", x, s, text, got, f)
			}
		}
		lengths := spans()
		for range 5000 {
			lengths = append(lengths, someSpan(r))
		}
		for _, x := range lengths {
			text, e := show.Span(x, s)
			if got, f := read.Span(text); e == api.OK && (got != x || f != api.OK) {
				t.Fatal("Span", x, s, text, got, f)
			}
		}
	}
}

// P19.5: instants, there and back: by ISO in any session, by SQL where what clocks are called tells them.
func TestInstantsThereAndBack(t *testing.T) {
	r := rand.New(rand.NewSource(197))
	b := book(t)
	told, lost := 0, 0
	all := tables(t)
	for _, z := range all {
		for _, s := range outs() {
			l := stamps()
			for range 500 {
				l = append(l, some(r))
			}
			for _, x := range l {
				text, e := show.Tz(x, z, s)
				if e != api.OK {
					continue
				}
				env := read.Env{Style: s, Zone: z, Book: b}
				if s.Out == api.ISO {
					env.Zone = all[r.Intn(len(all))]
				} else if x.Inf == 0 {
					how := standing(t, z, x)
					if got, e := read.Zone(how.Abbr, env, api.Stamp{U: x.U + how.Off*micro}); got != x || e != api.OK {
						lost++
						continue
					}
				}
				told++
				if got, e := read.Tz(text, env); got != x || e != api.OK {
					t.Fatalf("Tz(%v, %q, %v) is %q, and that is %v, %d", x, z.Name, s, text, got, e)
				}
			}
		}
	}
	if told < 10000 || lost == 0 {
		t.Error("too few were told, or lost:", told, lost)
	}
}

// What is handed in stays as it is.
func TestTablesStay(t *testing.T) {
	for i, z := range tables(t) {
		for _, s := range styles() {
			show.Tz(at(2024, 3, 31, hour), z, s)
			show.Value(api.Value{K: api.KTz}, z, s)
		}
		if !reflect.DeepEqual(z, tables(t)[i]) {
			t.Error("a table was changed", i)
		}
	}
}
