package ops_test

import (
	"math"
	"math/big"
	"math/rand"
	"reflect"
	"strings"
	"testing"
	"time"
	_ "time/tzdata"

	"computus/api"
	"computus/comp"
	"computus/names"
	"computus/ops"
	"computus/zone"
)

const (
	dayMicro  = 86400000000
	micro     = 1000000
	minute    = 60 * micro
	hour      = 3600 * micro
	since1970 = 946684800
	mostCount = 2147483647 // months, and days
	leastYear = -4712
	mostYear  = 294276
)

// example is the document's own source, and a zone whose clocks are not ahead by whole hours.
const example = "Rule EU 1977 1980 - Apr Sun>=1 1:00u 1:00 S\n" +
	"Rule EU 1981 max - Mar lastSun 1:00u 1:00 S\n" +
	"Rule EU 1996 max - Oct lastSun 1:00u 0:00 -\n" +
	"Zone Europe/Berlin 0:53:28 - LMT 1893 Apr 1 0:00\n" +
	"1:00 EU CE%sT\n" +
	"Link Europe/Berlin Berlin\n" +
	"Zone Asia/East 5:30 - %z 1990 Jan 1 0:00\n" +
	"5:45 - %z\n"

func found(t *testing.T, name string) comp.Table {
	t.Helper()
	b, _, _, e := names.Load(example)
	if e != api.OK {
		t.Fatal("Load", e)
	}
	z, e := b.Find(name)
	if e != api.OK {
		t.Fatal("Find", name, e)
	}
	return z
}

// tables is zones that can be: without shifts and with many, as far off as may be.
func tables(t *testing.T) []comp.Table {
	all := []comp.Table{zone.UTC(), {}, found(t, "Berlin"), found(t, "Asia/East"), {First: api.Tran{Off: 57600}}, {First: api.Tran{Off: -57600}}, {First: api.Tran{Off: 1}}, {First: api.Tran{Off: -1}}}
	many := comp.Table{First: api.Tran{Off: -57600, Abbr: "A"}}
	for i := range int64(40) {
		many.Trans = append(many.Trans, api.Tran{At: since1970 + i*7001, Off: (i*7919)%57600 - 20000, Dst: i%2 == 0, Abbr: string(rune('a' + i%5))})
	}
	// Clocks that skip a day's beginning, and that say one twice.
	gap := comp.Table{First: api.Tran{Off: 0}, Trans: []api.Tran{{At: since1970, Off: 1800}, {At: since1970 + 86400, Off: -1800}}}
	return append(all, many, gap)
}

// wrongTables is zones that can not be.
func wrongTables() []comp.Table {
	return []comp.Table{
		{First: api.Tran{At: 1}},
		{First: api.Tran{Off: 57601}},
		{First: api.Tran{Off: -57601}},
		{Trans: []api.Tran{{At: 5}, {At: 5}}},
		{Trans: []api.Tran{{Off: 60000}}},
		{Foot: comp.Foot{Has: true}},
		{Foot: comp.Foot{From: 7}},
	}
}

// lengths is the fields that a stamp can be cut at; others is those that it can not.
func lengths() []string {
	return []string{"microseconds", "milliseconds", "second", "minute", "hour", "day", "week", "month", "quarter", "year", "decade", "century", "millennium"}
}

func others() []string {
	return []string{"dow", "isodow", "doy", "isoyear", "epoch", "timezone"}
}

// unknown is names of no field.
func unknown() []string {
	return []string{"", " ", "x", "microsecond", "millisecond", "seconds", "minutes", "hours", "days", "weeks", "months", "quarters", "years", "decades", "centuries", "millennia", "day ", " day", "da", "dayy",
		"sec", "min", "mon", "isoweek", "julian", "timezone_hour", "time zone", "tz", "d\x00y", "d\xffy", "ſecond", "wee\u212a", strings.Repeat("day", 100000)}
}

// seconds is those since 1970 at a day's beginning.
func seconds(y int, m time.Month, d int) int64 {
	return time.Date(y, m, d, 0, 0, 0, 0, time.UTC).Unix()
}

// at is the stamp of a day and microseconds.
func at(y int, m time.Month, d int, us int64) api.Stamp {
	return api.Stamp{U: (seconds(y, m, d)-since1970)*micro + us}
}

// on is the date of a day.
func on(y int, m time.Month, d int) api.Date {
	return api.Date{D: (seconds(y, m, d) - since1970) / 86400}
}

func first() api.Stamp { return at(leastYear, 1, 1, 0) }
func last() api.Stamp  { return at(mostYear, 12, 31, dayMicro-1) }

// right and rightSpan are the document's words on a stamp and on an interval.
func right(t api.Stamp) bool {
	if t.Inf == 1 || t.Inf == -1 {
		return t.U == 0
	}
	return t.Inf == 0 && t.U >= first().U && t.U <= last().U
}

func rightSpan(s api.Span) bool {
	if s.Inf == 1 || s.Inf == -1 {
		return s.M == 0 && s.D == 0 && s.U == 0
	}
	return s.Inf == 0 && s.M >= -mostCount && s.M <= mostCount && s.D >= -mostCount && s.D <= mostCount && s.U > math.MinInt64
}

// wrongStamps is some that can not be.
func wrongStamps() []api.Stamp {
	return []api.Stamp{{Inf: 2}, {Inf: -2}, {Inf: 1, U: 1}, {Inf: -1, U: -1}, {Inf: math.MaxInt}, {Inf: math.MinInt}, {U: math.MinInt64}, {U: math.MaxInt64}, {U: first().U - 1}, {U: last().U + 1}}
}

// stampOf is the stamp of a number of any size, if it can be.
func stampOf(u *big.Int) (api.Stamp, api.Errno) {
	if !u.IsInt64() || !right(api.Stamp{U: u.Int64()}) {
		return api.Stamp{}, api.ErrRange
	}
	return api.Stamp{U: u.Int64()}, api.OK
}

// plus is the sum of numbers, of any size.
func plus(l ...int64) *big.Int {
	sum := new(big.Int)
	for _, n := range l {
		sum.Add(sum, big.NewInt(n))
	}
	return sum
}

// floor is the greatest whole number that is not above u by n, and what is left.
func floor(u, n int64) (int64, int64) {
	q, r := new(big.Int).DivMod(big.NewInt(u), big.NewInt(n), new(big.Int))
	return q.Int64(), r.Int64()
}

// finite is stamps without Inf that can be, about all edges.
func finite() []api.Stamp {
	var l []api.Stamp
	for _, y := range []int{leastYear, leastYear + 2, leastYear + 3, -4000, -3999, -1000, -999, -101, -100, -99, -11, -10, -9, -1, 0, 1, 2, 9, 10, 99, 100, 101, 1000, 1001, 1899, 1900, 1901, 1969, 1970, 1999, 2000, 2001, 2010, 2024, 9999, 100000, 294240, mostYear} {
		for _, m := range []time.Month{1, 2, 3, 4, 6, 7, 9, 10, 12} {
			for _, d := range []int{1, 2, 28, 31} {
				l = append(l, at(y, m, d, 0))
			}
		}
	}
	for _, x := range []api.Stamp{first(), last(), {}, at(2024, 3, 31, hour), at(2024, 10, 27, hour), at(2024, 3, 31, 9000500000), at(0, 1, 1, 0), at(1970, 1, 1, 0)} {
		for _, by := range []int64{0, 1, -1, 999, 1000, micro - 1, micro, -micro, minute - 1, minute, -minute, hour - 1, hour, -hour, 57600 * micro, -57600 * micro, dayMicro - 1, dayMicro, -dayMicro, 7 * dayMicro, -7 * dayMicro} {
			if t, e := stampOf(plus(x.U, by)); e == api.OK {
				l = append(l, t)
			}
		}
	}
	return l
}

// some is a stamp that can be.
func some(r *rand.Rand) api.Stamp {
	switch r.Intn(6) {
	case 0:
		l := []api.Stamp{first(), last()}
		by := r.Int63n(400 * dayMicro)
		if i := r.Intn(2); i == 1 {
			return api.Stamp{U: l[1].U - by}
		}
		return api.Stamp{U: l[0].U + by}
	case 1: // near the shifts of clocks
		return at(1990+r.Intn(100), []time.Month{3, 10}[r.Intn(2)], 24+r.Intn(8), r.Int63n(6*hour))
	case 2:
		return at(2000, 1, 1, r.Int63n(4*dayMicro))
	case 3:
		return at(r.Intn(5000)-2000, time.Month(1+r.Intn(12)), 1+r.Intn(31), r.Int63n(dayMicro))
	case 4:
		return at(2015+r.Intn(10), time.Month([]int{1, 12}[r.Intn(2)]), 1+r.Intn(31), r.Int63n(100)*micro*600)
	}
	return api.Stamp{U: first().U + int64(r.Uint64()%uint64(last().U-first().U))}
}

// civilTime is a stamp by package time.
func civilTime(t api.Stamp) time.Time {
	sec, us := floor(t.U, micro)
	return time.Unix(sec+since1970, us*1000).UTC()
}

// startOf is the year with which so many begin that one of them begins with a year.
func startOf(y, with, many int) int {
	for (y-with)%many != 0 {
		y--
	}
	return y
}

// cut is what Trunc must tell of a stamp without Inf that can be, and a field that a stamp can be cut at.
func cut(name string, l api.Stamp) (api.Stamp, api.Errno) {
	x := civilTime(l)
	y, m, d := x.Date()
	var us int64
	for i, n := range []int64{1, 1000, micro, minute, hour} {
		if lengths()[i] == name {
			_, us = floor(l.U, dayMicro)
			us -= us % n
		}
	}
	switch name {
	case "week":
		for time.Date(y, m, d, 0, 0, 0, 0, time.UTC).Weekday() != time.Monday {
			d--
		}
	case "month":
		d = 1
	case "quarter":
		d = 1
		for m != 1 && m != 4 && m != 7 && m != 10 {
			m--
		}
	case "year":
		m, d = 1, 1
	case "decade":
		y, m, d = startOf(y, 0, 10), 1, 1
	case "century":
		y, m, d = startOf(y, 1, 100), 1, 1
	case "millennium":
		y, m, d = startOf(y, 1, 1000), 1, 1
	}
	days := new(big.Int).Mul(big.NewInt((seconds(y, m, d)-since1970)/86400), big.NewInt(dayMicro))
	return stampOf(days.Add(days, big.NewInt(us)))
}

// localOf is what clocks say at an instant without Inf, by a zone that can be.
func localOf(z comp.Table, t api.Stamp) (api.Stamp, api.Errno) {
	sec, _ := floor(t.U, micro)
	x, e := zone.At(z, sec+since1970)
	if e != api.OK {
		return api.Stamp{}, e
	}
	return stampOf(plus(t.U, x.Off*micro))
}

// cutTz is what TruncTz must tell of an instant without Inf that can be, and a field that one can be cut at.
func cutTz(z comp.Table, name string, t api.Stamp) (api.Stamp, api.Errno) {
	l, e := localOf(z, t)
	if e != api.OK {
		return api.Stamp{}, e
	}
	c, e := cut(name, l)
	if e != api.OK {
		return api.Stamp{}, e
	}
	switch name {
	case "microseconds", "milliseconds", "second", "minute", "hour":
		return stampOf(plus(t.U, c.U, -l.U))
	}
	sec, us := floor(c.U, micro)
	i, _, e := zone.Instant(z, sec+since1970)
	if e != api.OK {
		return api.Stamp{}, e
	}
	u := new(big.Int).Mul(big.NewInt(i-since1970), big.NewInt(micro))
	return stampOf(u.Add(u, big.NewInt(us)))
}

// binned is what Bin must tell.
func binned(every api.Span, t, origin api.Stamp) (api.Stamp, api.Errno) {
	if !rightSpan(every) || !right(t) || !right(origin) {
		return api.Stamp{}, api.ErrArg
	}
	if every.M != 0 || every.Inf != 0 || origin.Inf != 0 {
		return api.Stamp{}, api.ErrRange
	}
	length := new(big.Int).Mul(big.NewInt(every.D), big.NewInt(dayMicro))
	length.Add(length, big.NewInt(every.U))
	if !length.IsInt64() || length.Sign() < 0 {
		return api.Stamp{}, api.ErrRange
	}
	if length.Sign() == 0 {
		return api.Stamp{}, api.ErrZero
	}
	if t.Inf != 0 {
		return t, api.OK
	}
	gone := new(big.Int).Sub(big.NewInt(t.U), big.NewInt(origin.U))
	if !gone.IsInt64() {
		return api.Stamp{}, api.ErrRange
	}
	times := new(big.Int).Div(gone, length)
	return stampOf(times.Add(times.Mul(times, length), big.NewInt(origin.U)))
}

// overlap is what Overlaps must tell of stamps that can be.
func overlap(a, b, c, d api.Stamp) bool {
	less := func(x, y api.Stamp) bool { return x.Inf < y.Inf || x.Inf == y.Inf && x.U < y.U }
	if less(b, a) {
		a, b = b, a
	}
	if less(d, c) {
		c, d = d, c
	}
	if a == c {
		return true
	}
	return less(a, c) && less(c, b) || less(c, a) && less(a, d)
}

func checkTrunc(t *testing.T, name string, l, want api.Stamp, e api.Errno) {
	t.Helper()
	if got, f := ops.Trunc(name, l); got != want || f != e {
		t.Fatalf("Trunc(%.30q, %v) is %v, %d, not %v, %d", name, l, got, f, want, e)
	}
}

func checkTruncTz(t *testing.T, z comp.Table, name string, x, want api.Stamp, e api.Errno) {
	t.Helper()
	if got, f := ops.TruncTz(z, name, x); got != want || f != e {
		t.Fatalf("TruncTz(%q, %.30q, %v) is %v, %d, not %v, %d", z.Name, name, x, got, f, want, e)
	}
}

func checkBin(t *testing.T, every api.Span, x, origin, want api.Stamp, e api.Errno) {
	t.Helper()
	if got, f := ops.Bin(every, x, origin); got != want || f != e {
		t.Fatalf("Bin(%v, %v, %v) is %v, %d, not %v, %d", every, x, origin, got, f, want, e)
	}
}

func checkOverlaps(t *testing.T, a, b, c, d api.Stamp, want bool, e api.Errno) {
	t.Helper()
	if got, f := ops.Overlaps(a, b, c, d); got != want || f != e {
		t.Fatalf("Overlaps(%v, %v, %v, %v) is %v, %d, not %v, %d", a, b, c, d, got, f, want, e)
	}
}

// P20.1: what is written out here.
func TestTruncExamples(t *testing.T) {
	l := at(2024, 3, 31, 9*hour+8*minute+7654321)
	for name, want := range map[string]api.Stamp{
		"microseconds": l, "milliseconds": at(2024, 3, 31, 9*hour+8*minute+7654000), "second": at(2024, 3, 31, 9*hour+8*minute+7*micro), "minute": at(2024, 3, 31, 9*hour+8*minute), "hour": at(2024, 3, 31, 9*hour),
		"day": at(2024, 3, 31, 0), "week": at(2024, 3, 25, 0), "month": at(2024, 3, 1, 0), "quarter": at(2024, 1, 1, 0), "year": at(2024, 1, 1, 0),
		"decade": at(2020, 1, 1, 0), "century": at(2001, 1, 1, 0), "millennium": at(2001, 1, 1, 0),
	} {
		checkTrunc(t, name, l, want, api.OK)
		checkTrunc(t, strings.ToUpper(name), l, want, api.OK)
		checkTrunc(t, strings.ToUpper(name[:1])+name[1:], l, want, api.OK)
	}
	for _, c := range []struct {
		name    string
		y, want int
	}{
		{"decade", 2029, 2020}, {"decade", 2030, 2030}, {"decade", 9, 0}, {"decade", 0, 0}, {"decade", -1, -10}, {"decade", -10, -10}, {"decade", -11, -20},
		{"century", 2000, 1901}, {"century", 2001, 2001}, {"century", 1, 1}, {"century", 100, 1}, {"century", 101, 101}, {"century", 0, -99}, {"century", -99, -99}, {"century", -100, -199},
		{"millennium", 2000, 1001}, {"millennium", 2001, 2001}, {"millennium", 1, 1}, {"millennium", 1000, 1}, {"millennium", 0, -999}, {"millennium", -999, -999}, {"millennium", -1000, -1999},
	} {
		checkTrunc(t, c.name, at(c.y, 7, 8, 9), at(c.want, 1, 1, 0), api.OK)
	}
	for m, want := range []time.Month{1, 1, 1, 4, 4, 4, 7, 7, 7, 10, 10, 10} {
		checkTrunc(t, "quarter", at(-5, time.Month(m+1), 29, 5), at(-5, want, 1, 0), api.OK)
	}
	for d := range 7 {
		checkTrunc(t, "week", at(2024, 12, 30+d, 5), at(2024, 12, 30, 0), api.OK)
		checkTrunc(t, "week", at(-43, 3, 11+d, 5), at(-43, 3, 11, 0), api.OK) // a Monday, too
	}
}

// P20.1: all edges, and of each kind of stamp.
func TestTrunc(t *testing.T) {
	r := rand.New(rand.NewSource(201))
	all := finite()
	for range 20000 {
		all = append(all, some(r))
	}
	seen := map[api.Errno]int{}
	for _, name := range lengths() {
		for _, l := range all {
			want, e := cut(name, l)
			checkTrunc(t, name, l, want, e)
			seen[e]++
		}
	}
	if seen[api.OK] == 0 || seen[api.ErrRange] == 0 {
		t.Error("not all was seen:", seen)
	}
}

// P20.1: at the first years some begin ahead of all that can be.
func TestTruncEnds(t *testing.T) {
	for _, c := range []struct {
		name string
		y    int // the first one of which the beginning can be
		from int
	}{
		{"decade", -4710, -4710}, {"century", -4699, -4699}, {"millennium", -3999, -3999},
	} {
		checkTrunc(t, c.name, at(c.y, 1, 1, 5), at(c.from, 1, 1, 0), api.OK)
		checkTrunc(t, c.name, at(c.y-1, 12, 31, dayMicro-1), api.Stamp{}, api.ErrRange)
		checkTrunc(t, c.name, first(), api.Stamp{}, api.ErrRange)
	}
	for _, name := range []string{"microseconds", "hour", "day", "month", "quarter", "year"} {
		checkTrunc(t, name, first(), first(), api.OK)
	}
	monday := 1
	for civilTime(at(leastYear, 1, monday, 0)).Weekday() != time.Monday {
		monday++
	}
	for d := 1; d < 15; d++ {
		want, e := api.Stamp{}, api.ErrRange
		if d >= monday {
			want, e = at(leastYear, 1, monday+(d-monday)/7*7, 0), api.OK
		}
		checkTrunc(t, "week", at(leastYear, 1, d, 7), want, e)
	}
}

// P20.1 and P20.2: what is wrong, and in which order it is told.
func TestTruncErrors(t *testing.T) {
	z := found(t, "Berlin")
	for _, name := range append(lengths(), append(others(), unknown()...)...) {
		for _, x := range wrongStamps() {
			checkTrunc(t, name, x, api.Stamp{}, api.ErrArg)
			checkTruncTz(t, z, name, x, api.Stamp{}, api.ErrArg)
		}
		for _, wrong := range wrongTables() {
			for _, x := range []api.Stamp{{}, {Inf: 1}, {Inf: -1}} {
				checkTruncTz(t, wrong, name, x, api.Stamp{}, api.ErrArg)
			}
		}
	}
	far := comp.Table{First: api.Tran{Off: 57600}}
	for _, name := range append(others(), unknown()...) {
		for _, x := range []api.Stamp{{}, {Inf: 1}, {Inf: -1}, first(), last()} {
			checkTrunc(t, name, x, api.Stamp{}, api.ErrName)
			checkTruncTz(t, z, name, x, api.Stamp{}, api.ErrName)
			checkTruncTz(t, far, name, x, api.Stamp{}, api.ErrName)
		}
	}
	for _, name := range lengths() {
		for _, x := range []api.Stamp{{Inf: 1}, {Inf: -1}} {
			checkTrunc(t, name, x, x, api.OK)
			checkTruncTz(t, z, name, x, x, api.OK)
			checkTruncTz(t, far, name, x, x, api.OK)
		}
	}
}

// P20.2: what is written out here.
func TestTruncTzExamples(t *testing.T) {
	z := found(t, "Berlin")
	for _, c := range []struct {
		name    string
		x, want api.Stamp
	}{
		{"day", at(2024, 3, 31, 2*hour), at(2024, 3, 30, 23*hour)},
		{"day", at(2024, 3, 31, 22*hour), at(2024, 3, 31, 22*hour)},
		{"day", at(2024, 3, 31, 22*hour-1), at(2024, 3, 30, 23*hour)},
		{"week", at(2024, 3, 31, 2*hour), at(2024, 3, 24, 23*hour)},
		{"month", at(2024, 7, 31, 23*hour), at(2024, 7, 31, 22*hour)},
		{"quarter", at(2024, 4, 5, 0), at(2024, 3, 31, 22*hour)},
		{"year", at(2024, 7, 1, 0), at(2023, 12, 31, 23*hour)},
		{"decade", at(2024, 7, 1, 0), at(2019, 12, 31, 23*hour)},
		{"century", at(2024, 7, 1, 0), at(2000, 12, 31, 23*hour)},
		{"millennium", at(2024, 7, 1, 0), at(2000, 12, 31, 23*hour)},
		// The hour that clocks say twice: each one stays in its own.
		{"hour", at(2024, 10, 27, hour/2), at(2024, 10, 27, 0)},
		{"hour", at(2024, 10, 27, 3*hour/2), at(2024, 10, 27, hour)},
		{"minute", at(2024, 10, 27, 3*hour/2+5), at(2024, 10, 27, 3*hour/2)},
		{"second", at(2024, 10, 27, 3*hour/2+5), at(2024, 10, 27, 3*hour/2)},
		{"milliseconds", at(2024, 10, 27, 3*hour/2+5999), at(2024, 10, 27, 3*hour/2+5000)},
		{"microseconds", at(2024, 10, 27, 3*hour/2+5999), at(2024, 10, 27, 3*hour/2+5999)},
		// Clocks that are ahead by 0:53:28.
		{"hour", at(1800, 1, 1, hour), at(1800, 1, 1, 6*minute+32*micro)},
		{"minute", at(1800, 1, 1, hour), at(1800, 1, 1, hour-28*micro)},
	} {
		checkTruncTz(t, z, c.name, c.x, c.want, api.OK)
		checkTruncTz(t, z, strings.ToUpper(c.name), c.x, c.want, api.OK)
	}
	east := found(t, "Asia/East")
	checkTruncTz(t, east, "hour", at(1980, 1, 1, 40*minute), at(1980, 1, 1, 30*minute), api.OK)
	checkTruncTz(t, east, "day", at(1980, 1, 1, 40*minute), at(1979, 12, 31, 18*hour+30*minute), api.OK)
	// A day whose beginning clocks leave out, and one whose beginning they say twice.
	gap := comp.Table{Trans: []api.Tran{{At: since1970, Off: 1800}, {At: since1970 + 86400 - 1800 + 900, Off: 0}}}
	checkTruncTz(t, gap, "day", at(2000, 1, 1, hour), at(2000, 1, 1, 0), api.OK)
	checkTruncTz(t, gap, "day", at(2000, 1, 2, hour), at(2000, 1, 1, dayMicro-30*minute), api.OK)
	// Its own hour begins ahead of the clocks' shift.
	checkTruncTz(t, gap, "hour", at(2000, 1, 1, 5*minute), at(1999, 12, 31, dayMicro-25*minute-5*minute), api.OK)
}

// P20.2: all edges by all zones.
func TestTruncTz(t *testing.T) {
	r := rand.New(rand.NewSource(202))
	seen := map[api.Errno]int{}
	for _, z := range tables(t) {
		all := finite()
		for range 1000 {
			all = append(all, some(r))
		}
		for _, name := range lengths() {
			for _, x := range all {
				want, e := cutTz(z, name, x)
				checkTruncTz(t, z, name, x, want, e)
				seen[e]++
			}
		}
	}
	if seen[api.OK] == 0 || seen[api.ErrRange] == 0 {
		t.Error("not all was seen:", seen)
	}
}

// P20.2: what clocks say, and what comes of it, must be able to be.
func TestTruncTzEnds(t *testing.T) {
	east, west, odd := comp.Table{First: api.Tran{Off: 57600}}, comp.Table{First: api.Tran{Off: -57600}}, comp.Table{First: api.Tran{Off: 1}}
	for _, name := range lengths() {
		checkTruncTz(t, east, name, last(), api.Stamp{}, api.ErrRange)
		checkTruncTz(t, west, name, first(), api.Stamp{}, api.ErrRange)
	}
	// Clocks say one second of the first minute: it begins ahead of all that can be.
	checkTruncTz(t, odd, "minute", first(), api.Stamp{}, api.ErrRange)
	checkTruncTz(t, odd, "second", first(), first(), api.OK)
	checkTruncTz(t, odd, "minute", api.Stamp{U: first().U + 59*micro}, api.Stamp{U: first().U + 59*micro}, api.OK)
	checkTruncTz(t, east, "day", api.Stamp{U: first().U + 8*hour - 1}, api.Stamp{}, api.ErrRange)
	checkTruncTz(t, east, "day", api.Stamp{U: first().U + 8*hour}, api.Stamp{U: first().U + 8*hour}, api.OK)
}

// P20.2: days of Berlin, by package time.
func TestTruncTzBerlin(t *testing.T) {
	z := found(t, "Berlin")
	place, err := time.LoadLocation("Europe/Berlin")
	if err != nil {
		t.Fatal(err)
	}
	r := rand.New(rand.NewSource(203))
	for range 5000 {
		sec := seconds(1997+r.Intn(300), time.Month(1+r.Intn(12)), 1+r.Intn(31)) + r.Int63n(86400)
		there := time.Unix(sec, 0).In(place)
		y, m, d := there.Date()
		x := api.Stamp{U: (sec-since1970)*micro + 7}
		for name, want := range map[string]time.Time{"day": time.Date(y, m, d, 0, 0, 0, 0, place), "month": time.Date(y, m, 1, 0, 0, 0, 0, place), "year": time.Date(y, 1, 1, 0, 0, 0, 0, place),
			"week": time.Date(y, m, d-(int(there.Weekday())+6)%7, 0, 0, 0, 0, place)} {
			if want.Unix() < seconds(1997, 1, 1) {
				continue
			}
			checkTruncTz(t, z, name, x, api.Stamp{U: (want.Unix() - since1970) * micro}, api.OK)
		}
	}
}

// P20.3: what is written out here.
func TestBinExamples(t *testing.T) {
	start := at(2024, 3, 31, 0)
	quarter := api.Span{U: 15 * minute}
	checkBin(t, quarter, at(2024, 3, 31, 2*hour+37*minute), start, at(2024, 3, 31, 2*hour+30*minute), api.OK)
	checkBin(t, quarter, start, start, start, api.OK)
	checkBin(t, quarter, at(2024, 3, 31, 15*minute), start, at(2024, 3, 31, 15*minute), api.OK)
	checkBin(t, quarter, at(2024, 3, 31, 15*minute-1), start, start, api.OK)
	checkBin(t, quarter, at(2024, 3, 30, dayMicro-1), start, at(2024, 3, 30, dayMicro-15*minute), api.OK)
	checkBin(t, quarter, at(2024, 3, 30, dayMicro-15*minute), start, at(2024, 3, 30, dayMicro-15*minute), api.OK)
	checkBin(t, api.Span{D: 2}, at(2024, 4, 3, 5), start, at(2024, 4, 2, 0), api.OK)
	checkBin(t, api.Span{D: 1, U: -23 * hour}, at(2024, 3, 31, 90*minute), start, at(2024, 3, 31, hour), api.OK)
	checkBin(t, api.Span{D: -1, U: 25 * hour}, at(2024, 3, 31, 90*minute), start, at(2024, 3, 31, hour), api.OK)
	checkBin(t, api.Span{U: 1}, at(2024, 3, 31, 77), start, at(2024, 3, 31, 77), api.OK)
	// Lengths that leave no int64 in the end, though their days alone do.
	checkBin(t, api.Span{D: 106751992, U: -dayMicro}, start, start, start, api.OK)
	checkBin(t, api.Span{D: 213503982, U: -math.MaxInt64}, start, start, start, api.OK)
	checkBin(t, api.Span{D: -106751991, U: math.MaxInt64}, at(2024, 3, 31, 14454775806), start, start, api.OK)
	checkBin(t, api.Span{D: -106751991, U: math.MaxInt64}, at(2024, 3, 31, 14454775807), start, at(2024, 3, 31, 14454775807), api.OK)
}

// P20.3: what is wrong, and in which order it is told.
func TestBinErrors(t *testing.T) {
	x, hourly := at(2024, 3, 31, 5), api.Span{U: hour}
	for _, wrong := range wrongStamps() {
		for _, s := range []api.Span{{}, hourly, {M: 1}, {Inf: 1}, {U: -1}} {
			checkBin(t, s, wrong, x, api.Stamp{}, api.ErrArg)
			checkBin(t, s, x, wrong, api.Stamp{}, api.ErrArg)
			checkBin(t, s, wrong, api.Stamp{Inf: 1}, api.Stamp{}, api.ErrArg)
			checkBin(t, s, api.Stamp{Inf: 1}, wrong, api.Stamp{}, api.ErrArg)
		}
	}
	ends := []api.Stamp{{Inf: 1}, {Inf: -1}}
	for _, s := range []api.Span{{Inf: 2}, {Inf: -2}, {Inf: 1, U: 1}, {M: mostCount + 1}, {D: -mostCount - 1}, {U: math.MinInt64}} {
		checkBin(t, s, x, x, api.Stamp{}, api.ErrArg)
		checkBin(t, s, ends[0], ends[1], api.Stamp{}, api.ErrArg)
	}
	for _, end := range ends {
		checkBin(t, hourly, x, end, api.Stamp{}, api.ErrRange)
		checkBin(t, hourly, end, end, api.Stamp{}, api.ErrRange)
		checkBin(t, api.Span{}, x, end, api.Stamp{}, api.ErrRange)
		checkBin(t, hourly, end, x, end, api.OK)
		checkBin(t, api.Span{}, end, x, api.Stamp{}, api.ErrZero)
		for _, s := range []api.Span{{M: 1}, {M: -1}, {M: 1, U: hour}, {Inf: 1}, {Inf: -1}, {U: -1}, {D: -1}, {D: 1, U: -dayMicro - 1}, {D: 106751992}, {D: mostCount}, {D: 1, U: math.MaxInt64}, {D: -mostCount}, {D: -1, U: -math.MaxInt64}} {
			checkBin(t, s, x, x, api.Stamp{}, api.ErrRange)
			checkBin(t, s, end, x, api.Stamp{}, api.ErrRange)
			checkBin(t, s, x, end, api.Stamp{}, api.ErrRange)
		}
	}
	for _, s := range []api.Span{{}, {D: 1, U: -dayMicro}, {D: -3, U: 3 * dayMicro}} {
		checkBin(t, s, x, x, api.Stamp{}, api.ErrZero)
	}
	// How far both are apart is no int64; what comes of it can not be.
	checkBin(t, hourly, last(), first(), api.Stamp{}, api.ErrRange)
	checkBin(t, hourly, first(), last(), api.Stamp{}, api.ErrRange)
	checkBin(t, hourly, ends[0], first(), ends[0], api.OK)
	checkBin(t, hourly, first(), api.Stamp{U: first().U + hour}, first(), api.OK)
	checkBin(t, hourly, first(), api.Stamp{U: first().U + hour - 1}, api.Stamp{}, api.ErrRange)
	checkBin(t, api.Span{U: math.MaxInt64}, at(2024, 3, 31, 0), at(2024, 3, 31, 1), api.Stamp{}, api.ErrRange)
	checkBin(t, api.Span{U: math.MaxInt64}, last(), api.Stamp{U: last().U - math.MaxInt64}, last(), api.OK)
	checkBin(t, api.Span{U: math.MaxInt64}, last(), api.Stamp{U: last().U - math.MaxInt64 + 1}, api.Stamp{U: last().U - math.MaxInt64 + 1}, api.OK)
	// Times that begin so far ahead that not even an int64 tells it.
	checkBin(t, api.Span{U: math.MaxInt64}, api.Stamp{U: first().U + 5}, api.Stamp{U: first().U + 6}, api.Stamp{}, api.ErrRange)
}

// someLength is an interval without months, that leads on, mostly.
func someLength(r *rand.Rand) api.Span {
	switch r.Intn(5) {
	case 0:
		return api.Span{D: r.Int63n(300000000) - 1000, U: r.Int63() - r.Int63()}
	case 1:
		return api.Span{U: r.Int63()}
	case 2:
		return api.Span{D: r.Int63n(400), U: r.Int63n(dayMicro)}
	case 3:
		return api.Span{D: r.Int63n(3), U: r.Int63n(dayMicro) - dayMicro}
	}
	return api.Span{U: 1 + r.Int63n(3*hour)}
}

// P20.3 and P20.7: of random times, not behind, less than one length ahead, whole lengths from the origin.
func TestBin(t *testing.T) {
	r := rand.New(rand.NewSource(204))
	seen := map[api.Errno]int{}
	for range 200000 {
		s, x, origin := someLength(r), some(r), some(r)
		want, e := binned(s, x, origin)
		checkBin(t, s, x, origin, want, e)
		seen[e]++
		if e != api.OK {
			continue
		}
		got, _ := ops.Bin(s, x, origin)
		length := new(big.Int).Add(new(big.Int).Mul(big.NewInt(s.D), big.NewInt(dayMicro)), big.NewInt(s.U))
		ahead := new(big.Int).Sub(big.NewInt(x.U), big.NewInt(got.U))
		rest := new(big.Int).Mod(new(big.Int).Sub(big.NewInt(got.U), big.NewInt(origin.U)), length)
		if ahead.Sign() < 0 || ahead.Cmp(length) >= 0 || rest.Sign() != 0 {
			t.Fatal("Bin", s, x, origin, got)
		}
	}
	if seen[api.OK] < 50000 || seen[api.ErrRange] == 0 {
		t.Error("not all was seen:", seen)
	}
}

// P20.5: what is written out here.
func TestOverlapsExamples(t *testing.T) {
	on := func(d int) api.Stamp { return at(2024, 1, d, 0) }
	before, behind := api.Stamp{Inf: -1}, api.Stamp{Inf: 1}
	for _, c := range []struct {
		a, b, c, d api.Stamp
		want       bool
	}{
		{on(1), on(2), on(2), on(3), false},
		{on(1), on(3), on(2), on(4), true},
		{on(1), on(4), on(2), on(3), true},
		{on(1), on(2), on(3), on(4), false},
		{on(1), on(2), on(1), on(3), true},
		{on(1), on(1), on(1), on(1), true},
		{on(1), on(1), on(1), on(2), true},
		{on(2), on(2), on(1), on(2), false},
		{on(2), on(2), on(1), on(3), true},
		{on(2), on(2), on(3), on(3), false},
		{before, behind, on(1), on(2), true},
		{before, behind, behind, behind, false},
		{before, behind, before, before, true},
		{on(1), behind, on(5), behind, true},
		{behind, behind, behind, behind, true},
		{before, on(1), on(1), behind, false},
		{before, on(2), on(1), behind, true},
	} {
		checkOverlaps(t, c.a, c.b, c.c, c.d, c.want, api.OK)
		checkOverlaps(t, c.b, c.a, c.c, c.d, c.want, api.OK)
		checkOverlaps(t, c.a, c.b, c.d, c.c, c.want, api.OK)
		checkOverlaps(t, c.d, c.c, c.b, c.a, c.want, api.OK)
	}
}

// P20.5: all of few stamps, and what can not be.
func TestOverlaps(t *testing.T) {
	l := []api.Stamp{{Inf: -1}, first(), {U: -1}, {}, {U: 1}, last(), {Inf: 1}}
	for _, a := range l {
		for _, b := range l {
			for _, c := range l {
				for _, d := range l {
					checkOverlaps(t, a, b, c, d, overlap(a, b, c, d), api.OK)
				}
			}
		}
	}
	for _, wrong := range wrongStamps() {
		for i := range 4 {
			four := [4]api.Stamp{{}, {}, {Inf: 1}, {}}
			four[i] = wrong
			checkOverlaps(t, four[0], four[1], four[2], four[3], false, api.ErrArg)
		}
	}
}

// P20.6: Trunc is not behind, and Trunc of that is it; it keeps the order.
func TestTruncTwice(t *testing.T) {
	r := rand.New(rand.NewSource(205))
	for range 30000 {
		l := some(r)
		later := api.Stamp{U: min(l.U, last().U-dayMicro) + r.Int63n(dayMicro)}
		for _, name := range lengths() {
			x, e := ops.Trunc(name, l)
			if e != api.OK {
				continue
			}
			if x.U > l.U {
				t.Fatal("Trunc is behind", name, l, x)
			}
			checkTrunc(t, name, x, x, api.OK)
			if y, e := ops.Trunc(name, later); e == api.OK && (y.U < x.U) != (later.U < l.U && y.U != x.U) {
				t.Fatal("Trunc", name, l, x, later, y)
			}
		}
	}
}

// What is handed in stays as it is.
func TestTablesStay(t *testing.T) {
	for i, z := range tables(t) {
		for _, name := range append(lengths(), others()...) {
			ops.TruncTz(z, name, at(2024, 3, 31, hour))
			ops.Extract(z, name, api.Value{K: api.KTz})
		}
		if !reflect.DeepEqual(z, tables(t)[i]) {
			t.Error("a table was changed", i)
		}
	}
}
