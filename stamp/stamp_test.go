package stamp_test

import (
	"math"
	"math/big"
	"math/rand"
	"reflect"
	"testing"
	"time"
	_ "time/tzdata"

	"computus/api"
	"computus/comp"
	"computus/names"
	"computus/stamp"
	"computus/zone"
)

const (
	dayMicro  = 86400000000
	micro     = 1000000
	hour      = 3600 * micro
	since1970 = 946684800
	mostCount = 2147483647 // months, and days
	leastYear = -4712
	mostYear  = 294276
)

// example is the document's own source.
const example = "Rule EU 1977 1980 - Apr Sun>=1 1:00u 1:00 S\n" +
	"Rule EU 1981 max - Mar lastSun 1:00u 1:00 S\n" +
	"Rule EU 1996 max - Oct lastSun 1:00u 0:00 -\n" +
	"Zone Europe/Berlin 0:53:28 - LMT 1893 Apr 1 0:00\n" +
	"1:00 EU CE%sT\n" +
	"Link Europe/Berlin Berlin\n"

func berlin(t *testing.T) comp.Table {
	t.Helper()
	b, _, _, e := names.Load(example)
	if e != api.OK {
		t.Fatal("Load", e)
	}
	z, e := b.Find("Berlin")
	if e != api.OK {
		t.Fatal("Find", e)
	}
	return z
}

// tables is zones that can be: without shifts and with many, as far off as may be.
func tables(t *testing.T) []comp.Table {
	all := []comp.Table{zone.UTC(), {}, berlin(t), {First: api.Tran{Off: 57600}}, {First: api.Tran{Off: -57600}}, {First: api.Tran{Off: 1}}, {First: api.Tran{Off: -1}}}
	many := comp.Table{First: api.Tran{Off: -57600, Abbr: "A"}}
	for i := range int64(40) {
		many.Trans = append(many.Trans, api.Tran{At: since1970 + i*7001, Off: (i*7919)%57600 - 20000, Dst: i%2 == 0, Abbr: string(rune('a' + i%5))})
	}
	ends := comp.Table{First: api.Tran{Off: 57600}, Trans: []api.Tran{{At: seconds(leastYear, 1, 2), Off: -57600}, {At: seconds(mostYear, 12, 30), Off: 57600}, {At: seconds(mostYear, 12, 31), Off: -57600}}}
	return append(all, many, ends)
}

// wrongTables is zones that can not be.
func wrongTables() []comp.Table {
	return []comp.Table{
		{First: api.Tran{At: 1}},
		{First: api.Tran{Off: 57601}},
		{First: api.Tran{Off: -57601}},
		{Trans: []api.Tran{{At: 5}, {At: 5}}},
		{Trans: []api.Tran{{At: 1<<50 + 1}}},
		{Trans: []api.Tran{{Off: 60000}}},
		{Trans: make([]api.Tran, 4097)},
		{Foot: comp.Foot{Has: true}},
		{Foot: comp.Foot{From: 7}},
	}
}

// seconds is those since 1970 at a day's beginning.
func seconds(y int, m time.Month, d int) int64 {
	return time.Date(y, m, d, 0, 0, 0, 0, time.UTC).Unix()
}

// at is the stamp of a day and microseconds.
func at(y int, m time.Month, d int, us int64) api.Stamp {
	return api.Stamp{U: (seconds(y, m, d)-since1970)*micro + us}
}

func first() api.Stamp { return at(leastYear, 1, 1, 0) }
func last() api.Stamp  { return at(mostYear, 12, 31, dayMicro-1) }

// right is the document's words on a stamp.
func right(t api.Stamp) bool {
	if t.Inf == 1 || t.Inf == -1 {
		return t.U == 0
	}
	return t.Inf == 0 && t.U >= first().U && t.U <= last().U
}

// rightSpan is the document's words on an interval.
func rightSpan(s api.Span) bool {
	if s.Inf == 1 || s.Inf == -1 {
		return s.M == 0 && s.D == 0 && s.U == 0
	}
	return s.Inf == 0 && s.M >= -mostCount && s.M <= mostCount && s.D >= -mostCount && s.D <= mostCount && s.U > math.MinInt64
}

// stampOf is the stamp of a number of any size, if it can be.
func stampOf(u *big.Int) (api.Stamp, api.Errno) {
	if !u.IsInt64() || !right(api.Stamp{U: u.Int64()}) {
		return api.Stamp{}, api.ErrRange
	}
	return api.Stamp{U: u.Int64()}, api.OK
}

// plus is the sum of numbers, of any size.
func plus(l ...int64) *big.Int {
	sum := new(big.Int)
	for _, n := range l {
		sum.Add(sum, big.NewInt(n))
	}
	return sum
}

// floor is the greatest whole number that is not above u by n, and what is left.
func floor(u, n int64) (int64, int64) {
	q, r := new(big.Int).DivMod(big.NewInt(u), big.NewInt(n), new(big.Int))
	return q.Int64(), r.Int64()
}

// stamps is those about all edges, and such as can not be.
func stamps() []api.Stamp {
	l := []api.Stamp{{Inf: 1}, {Inf: -1}, {Inf: 2}, {Inf: -2}, {Inf: 1, U: 1}, {Inf: -1, U: -1}, {Inf: math.MaxInt}, {Inf: math.MinInt},
		{U: math.MinInt64}, {U: math.MaxInt64}, {U: first().U - 1}, {U: last().U + 1}}
	return append(l, finite()...)
}

// finite is stamps without Inf that can be.
func finite() []api.Stamp {
	var l []api.Stamp
	for _, u := range []int64{first().U, last().U, 0, at(2024, 3, 31, hour).U, at(2024, 10, 27, hour).U, at(2024, 1, 31, 0).U, at(2024, 2, 29, 5).U,
		at(1893, 4, 1, 0).U, at(0, 2, 29, 7).U, at(1970, 1, 1, 0).U, at(2023, 12, 31, dayMicro-1).U, at(294276, 2, 29, 1).U, at(9999, 10, 31, hour).U} {
		for _, by := range []int64{0, 1, -1, micro - 1, micro, -micro, 57600 * micro, -57600 * micro, 57600*micro - 1, -57600*micro - 1, dayMicro, -dayMicro} {
			if t, e := stampOf(plus(u, by)); e == api.OK {
				l = append(l, t)
			}
		}
	}
	return l
}

// some is a stamp that can be.
func some(r *rand.Rand) api.Stamp {
	switch r.Intn(6) {
	case 0:
		l := finite()
		return l[r.Intn(len(l))]
	case 1: // near the shifts of clocks
		return at(1990+r.Intn(100), []time.Month{3, 10}[r.Intn(2)], 24+r.Intn(8), r.Int63n(6*hour))
	case 2:
		return at(2000, 1, 1, r.Int63n(4*dayMicro))
	case 3:
		return at(r.Intn(5000)-1000, time.Month(1+r.Intn(12)), 26+r.Intn(6), r.Int63n(dayMicro))
	case 4:
		return at(2020+r.Intn(4), time.Month(1+r.Intn(12)), 1+r.Intn(31), 0)
	}
	return api.Stamp{U: first().U + int64(r.Uint64()%uint64(last().U-first().U))}
}

// spans is intervals of all edges, and such as can not be.
func spans() []api.Span {
	l := []api.Span{{Inf: 1}, {Inf: -1}, {Inf: 2}, {Inf: -2}, {Inf: 1, M: 1}, {Inf: -1, D: 1}, {Inf: 1, U: 1}}
	for _, m := range []int64{0, 1, -1, 12, -13, 24000, 3587868, -3587868, mostCount, -mostCount, mostCount + 1, -mostCount - 1, math.MaxInt64} {
		for _, d := range []int64{0, 1, -1, 31, -366, 109207190, -109207190, mostCount, -mostCount, mostCount + 1, -mostCount - 1, math.MinInt64} {
			for _, u := range []int64{0, 1, -1, dayMicro, -dayMicro, 57600 * micro, math.MaxInt64, -math.MaxInt64, math.MinInt64} {
				l = append(l, api.Span{M: m, D: d, U: u})
			}
		}
	}
	return l
}

// someSpan is an interval that can be.
func someSpan(r *rand.Rand) api.Span {
	pick := func(most int64) int64 {
		switch r.Intn(4) {
		case 0:
			return 0
		case 1:
			return r.Int63n(most/1000+40) - most/2000 - 20
		}
		return r.Int63n(80) - 40
	}
	s := api.Span{M: pick(4000000), D: pick(110000000), U: pick(math.MaxInt64)}
	if r.Intn(3) == 0 {
		s.U = (r.Int63n(200) - 100) * hour
	}
	return s
}

// shifted is a day so many months on, by package time.
func shifted(days, months int64) (int64, bool) {
	d := time.Unix(days*86400+since1970, 0).UTC()
	count := int64(d.Year())*12 + int64(d.Month()) - 1 + months
	y, m := floor(count, 12)
	if y < leastYear || y > mostYear {
		return 0, false
	}
	length := time.Date(int(y), time.Month(m+2), 0, 0, 0, 0, 0, time.UTC).Day()
	return (seconds(int(y), time.Month(m+1), min(d.Day(), length)) - since1970) / 86400, true
}

// added is what Add must tell.
func added(l api.Stamp, s api.Span) (api.Stamp, api.Errno) {
	switch {
	case !right(l) || !rightSpan(s):
		return api.Stamp{}, api.ErrArg
	case l.Inf != 0 && s.Inf == -l.Inf:
		return api.Stamp{}, api.ErrRange
	case l.Inf != 0:
		return l, api.OK
	case s.Inf != 0:
		return api.Stamp{Inf: s.Inf}, api.OK
	}
	days, us := floor(l.U, dayMicro)
	if s.M != 0 {
		var ok bool
		if days, ok = shifted(days, s.M); !ok {
			return api.Stamp{}, api.ErrRange
		}
	}
	days += s.D
	u := new(big.Int).Mul(big.NewInt(days), big.NewInt(dayMicro))
	if _, e := stampOf(u); e != api.OK {
		return api.Stamp{}, e
	}
	return stampOf(u.Add(u, plus(us, s.U)))
}

// localOf is what Local must tell of an instant without Inf, by a zone that can be.
func localOf(z comp.Table, t api.Stamp) (api.Stamp, api.Errno) {
	sec, _ := floor(t.U, micro)
	x, e := zone.At(z, sec+since1970)
	if e != api.OK {
		return api.Stamp{}, e
	}
	return stampOf(plus(t.U, x.Off*micro))
}

// instantOf is what Instant must tell of a stamp without Inf, by a zone that can be.
func instantOf(z comp.Table, l api.Stamp) (api.Stamp, int, api.Errno) {
	sec, us := floor(l.U, micro)
	at, often, e := zone.Instant(z, sec+since1970)
	if e != api.OK {
		return api.Stamp{}, 0, e
	}
	u := big.NewInt(at - since1970)
	t, e := stampOf(u.Add(u.Mul(u, big.NewInt(micro)), big.NewInt(us)))
	if e != api.OK {
		return api.Stamp{}, 0, e
	}
	return t, often, api.OK
}

// addedTz is what AddTz must tell.
func addedTz(z comp.Table, t api.Stamp, s api.Span) (api.Stamp, api.Errno) {
	if t.Inf != 0 || s.Inf != 0 || !right(t) || !rightSpan(s) {
		return added(t, s)
	}
	if s.M != 0 || s.D != 0 {
		l, e := localOf(z, t)
		if e != api.OK {
			return api.Stamp{}, e
		}
		if l, e = added(l, api.Span{M: s.M, D: s.D}); e != api.OK {
			return api.Stamp{}, e
		}
		if t, _, e = instantOf(z, l); e != api.OK {
			return api.Stamp{}, e
		}
	}
	return stampOf(plus(t.U, s.U))
}

// apart is what Sub must tell.
func apart(a, b api.Stamp) (api.Span, api.Errno) {
	switch {
	case !right(a) || !right(b):
		return api.Span{}, api.ErrArg
	case a.Inf != 0 && a.Inf == b.Inf:
		return api.Span{}, api.ErrRange
	case a.Inf != 0:
		return api.Span{Inf: a.Inf}, api.OK
	case b.Inf != 0:
		return api.Span{Inf: -b.Inf}, api.OK
	}
	us := new(big.Int).Sub(big.NewInt(a.U), big.NewInt(b.U))
	if !us.IsInt64() {
		return api.Span{}, api.ErrRange
	}
	days, rest := new(big.Int).QuoRem(us, big.NewInt(dayMicro), new(big.Int))
	return api.Span{D: days.Int64(), U: rest.Int64()}, api.OK
}

// months is the greatest number of them for which b and it is not behind a, found by halves.
func months(a, b api.Stamp) int64 {
	low, high := int64(0), int64(mostCount)
	for low < high {
		half := (low + high + 1) / 2
		if x, e := added(b, api.Span{M: half}); e == api.OK && x.U <= a.U {
			low = half
		} else {
			high = half - 1
		}
	}
	return low
}

// aged is what Age must tell.
func aged(a, b api.Stamp) (api.Span, api.Errno) {
	if !right(a) || !right(b) || a.Inf != 0 || b.Inf != 0 {
		return apart(a, b)
	}
	if a.U < b.U {
		s, e := aged(b, a)
		return api.Span{M: -s.M, D: -s.D, U: -s.U}, e
	}
	m := months(a, b)
	x, _ := added(b, api.Span{M: m})
	s, e := apart(a, x)
	s.M = m
	return s, e
}

func checkLocal(t *testing.T, z comp.Table, x, want api.Stamp, e api.Errno) {
	t.Helper()
	if got, f := stamp.Local(z, x); got != want || f != e {
		t.Fatalf("Local(%q, %v) is %v, %d, not %v, %d", z.Name, x, got, f, want, e)
	}
}

func checkInstant(t *testing.T, z comp.Table, x, want api.Stamp, often int, e api.Errno) {
	t.Helper()
	if got, how, f := stamp.Instant(z, x); got != want || how != often || f != e {
		t.Fatalf("Instant(%q, %v) is %v, %d, %d, not %v, %d, %d", z.Name, x, got, how, f, want, often, e)
	}
}

func checkOffset(t *testing.T, z comp.Table, x api.Stamp, want api.Tran, e api.Errno) {
	t.Helper()
	if got, f := stamp.Offset(z, x); got != want || f != e {
		t.Fatalf("Offset(%q, %v) is %v, %d, not %v, %d", z.Name, x, got, f, want, e)
	}
}

func checkAdd(t *testing.T, l api.Stamp, s api.Span, want api.Stamp, e api.Errno) {
	t.Helper()
	if got, f := stamp.Add(l, s); got != want || f != e {
		t.Fatalf("Add(%v, %v) is %v, %d, not %v, %d", l, s, got, f, want, e)
	}
}

func checkAddTz(t *testing.T, z comp.Table, x api.Stamp, s api.Span, want api.Stamp, e api.Errno) {
	t.Helper()
	if got, f := stamp.AddTz(z, x, s); got != want || f != e {
		t.Fatalf("AddTz(%q, %v, %v) is %v, %d, not %v, %d", z.Name, x, s, got, f, want, e)
	}
}

func checkSub(t *testing.T, a, b api.Stamp, want api.Span, e api.Errno) {
	t.Helper()
	if got, f := stamp.Sub(a, b); got != want || f != e {
		t.Fatalf("Sub(%v, %v) is %v, %d, not %v, %d", a, b, got, f, want, e)
	}
}

func checkAge(t *testing.T, a, b api.Stamp, want api.Span, e api.Errno) {
	t.Helper()
	if got, f := stamp.Age(a, b); got != want || f != e {
		t.Fatalf("Age(%v, %v) is %v, %d, not %v, %d", a, b, got, f, want, e)
	}
}

// The document's examples.
func TestExamples(t *testing.T) {
	z := berlin(t)
	half := at(2024, 10, 27, hour/2)
	checkLocal(t, z, half, at(2024, 10, 27, 5*hour/2), api.OK)
	checkInstant(t, z, at(2024, 10, 27, 5*hour/2), half, zone.Twice, api.OK)
	noon := at(2024, 3, 30, 11*hour)
	checkAddTz(t, z, noon, api.Span{D: 1}, at(2024, 3, 31, 10*hour), api.OK)
	checkAddTz(t, z, noon, api.Span{U: 24 * hour}, at(2024, 3, 31, 11*hour), api.OK)
	checkAge(t, at(2024, 3, 1, 0), at(2024, 1, 31, 0), api.Span{M: 1, D: 1}, api.OK)
	checkAdd(t, at(2024, 1, 31, 0), api.Span{M: 1}, at(2024, 2, 29, 0), api.OK)
}

// P17.1: of each stamp and zone, right or wrong.
func TestClocks(t *testing.T) {
	r := rand.New(rand.NewSource(171))
	all := stamps()
	for range 4000 {
		all = append(all, some(r))
	}
	ok := 0
	for _, z := range tables(t) {
		for _, x := range all {
			if !right(x) {
				checkLocal(t, z, x, api.Stamp{}, api.ErrArg)
				checkInstant(t, z, x, api.Stamp{}, 0, api.ErrArg)
				checkOffset(t, z, x, api.Tran{}, api.ErrArg)
				continue
			}
			if x.Inf != 0 {
				checkLocal(t, z, x, x, api.OK)
				checkInstant(t, z, x, x, zone.Once, api.OK)
				checkOffset(t, z, x, api.Tran{}, api.ErrRange)
				continue
			}
			l, e := localOf(z, x)
			checkLocal(t, z, x, l, e)
			i, often, e := instantOf(z, x)
			checkInstant(t, z, x, i, often, e)
			sec, _ := floor(x.U, micro)
			how, e := zone.At(z, sec+since1970)
			checkOffset(t, z, x, how, e)
			if e == api.OK {
				ok++
			}
		}
	}
	if ok == 0 {
		t.Error("nothing was right")
	}
}

// P17.1: at both ends what clocks say, or the instant, can be none.
func TestEnds(t *testing.T) {
	east, west := comp.Table{First: api.Tran{Off: 57600}}, comp.Table{First: api.Tran{Off: -57600}}
	for us, e := range map[int64]api.Errno{57600*micro - 1: api.ErrRange, 57600 * micro: api.OK} {
		l, b := api.Stamp{}, api.Stamp{}
		if e == api.OK {
			l, b = last(), first()
		}
		checkLocal(t, east, api.Stamp{U: last().U - us}, l, e)
		checkInstant(t, west, api.Stamp{U: last().U - us}, l, zone.Once, e)
		checkLocal(t, west, api.Stamp{U: first().U + us}, b, e)
		checkInstant(t, east, api.Stamp{U: first().U + us}, b, zone.Once, e)
	}
}

// P17.1: clocks of Berlin, by package time.
func TestBerlin(t *testing.T) {
	z := berlin(t)
	place, err := time.LoadLocation("Europe/Berlin")
	if err != nil {
		t.Fatal(err)
	}
	r := rand.New(rand.NewSource(172))
	for range 20000 {
		x := at(1997+r.Intn(300), time.Month(1+r.Intn(12)), 1+r.Intn(31), r.Int63n(dayMicro))
		sec, us := floor(x.U, micro)
		name, off := time.Unix(sec+since1970, 0).In(place).Zone()
		l := api.Stamp{U: x.U + int64(off)*micro}
		checkLocal(t, z, x, l, api.OK)
		how, e := stamp.Offset(z, x)
		if how.Abbr != name || how.Off != int64(off) || how.Dst != (name == "CEST") || e != api.OK {
			t.Fatal("Offset", x, how, e, name, off)
		}
		s, e := stamp.AddTz(z, x, api.Span{M: int64(r.Intn(30)), D: int64(r.Intn(30))})
		if _, rest := floor(s.U, micro); rest != us || e != api.OK {
			t.Fatal("AddTz", x, s, e)
		}
	}
	// A day on, by a calendar that has one: the same time of the day, whatever the clocks do between.
	for range 20000 {
		d := time.Date(1997+r.Intn(100), time.Month(1+r.Intn(12)), 1+r.Intn(31), 4+r.Intn(20), r.Intn(60), r.Intn(60), 0, place)
		days := r.Intn(800) - 400
		x, want := api.Stamp{U: (d.Unix() - since1970) * micro}, api.Stamp{U: (d.AddDate(0, 0, days).Unix() - since1970) * micro}
		if want.U < at(1997, 1, 1, 0).U {
			continue
		}
		checkAddTz(t, z, x, api.Span{D: int64(days)}, want, api.OK)
	}
}

// P17.2: all edges together, of Infs and of what can not be, too.
func TestAdd(t *testing.T) {
	ok := 0
	for _, l := range stamps() {
		for _, s := range spans() {
			want, e := added(l, s)
			checkAdd(t, l, s, want, e)
			if e == api.OK {
				ok++
			}
		}
	}
	r := rand.New(rand.NewSource(173))
	for range 300000 {
		l, s := some(r), someSpan(r)
		want, e := added(l, s)
		checkAdd(t, l, s, want, e)
		if e == api.OK {
			ok++
		}
	}
	if ok < 100000 {
		t.Error("too few were right:", ok)
	}
}

// P17.2: each step's result must be able to be, whatever comes behind it.
func TestAddStepByStep(t *testing.T) {
	for _, c := range []struct {
		l api.Stamp
		s api.Span
		e api.Errno
	}{
		{at(2024, 1, 31, 0), api.Span{M: 1, D: -1}, api.OK},
		{at(mostYear, 12, 1, 0), api.Span{M: 1, D: -31}, api.ErrRange},
		{at(mostYear, 12, 31, 0), api.Span{D: 1, U: -1}, api.ErrRange},
		{at(mostYear, 12, 31, 0), api.Span{U: dayMicro - 1}, api.OK},
		{at(mostYear, 12, 31, 0), api.Span{U: dayMicro}, api.ErrRange},
		{at(leastYear, 1, 1, 0), api.Span{M: -1, D: 31}, api.ErrRange},
		{at(leastYear, 1, 1, 5), api.Span{U: -5}, api.OK},
		{at(leastYear, 1, 1, 5), api.Span{U: -6}, api.ErrRange},
		{at(leastYear, 1, 1, 0), api.Span{M: 1, D: -31}, api.OK},
		{first(), api.Span{M: 12 * (mostYear - leastYear)}, api.OK},
		{first(), api.Span{M: 12 * (mostYear - leastYear + 1)}, api.ErrRange},
		{at(2000, 1, 1, 0), api.Span{U: math.MaxInt64}, api.ErrRange},
	} {
		want, e := added(c.l, c.s)
		if e != c.e {
			t.Fatal("the test's own sum", c.l, c.s, want, e)
		}
		checkAdd(t, c.l, c.s, want, e)
		checkAddTz(t, zone.UTC(), c.l, c.s, want, e)
	}
	// Months first, then days: February 29 and a day.
	checkAdd(t, at(2024, 1, 31, 7), api.Span{M: 1, D: 1, U: -8}, at(2024, 2, 29, dayMicro-1), api.OK)
	checkAdd(t, at(2023, 1, 31, 7), api.Span{M: 1, D: 1, U: 1}, at(2023, 3, 1, 8), api.OK)
}

// P17.2: of Infs.
func TestAddInf(t *testing.T) {
	z := berlin(t)
	x, s := at(2024, 3, 31, 5), api.Span{M: 1, D: 2, U: 3}
	for _, inf := range []int{1, -1} {
		for _, c := range []struct {
			l    api.Stamp
			s    api.Span
			want api.Stamp
			e    api.Errno
		}{
			{api.Stamp{Inf: inf}, s, api.Stamp{Inf: inf}, api.OK},
			{api.Stamp{Inf: inf}, api.Span{}, api.Stamp{Inf: inf}, api.OK},
			{api.Stamp{Inf: inf}, api.Span{Inf: inf}, api.Stamp{Inf: inf}, api.OK},
			{api.Stamp{Inf: inf}, api.Span{Inf: -inf}, api.Stamp{}, api.ErrRange},
			{x, api.Span{Inf: inf}, api.Stamp{Inf: inf}, api.OK},
		} {
			checkAdd(t, c.l, c.s, c.want, c.e)
			checkAddTz(t, z, c.l, c.s, c.want, c.e)
		}
	}
}

// P17.2: months and days by the clocks, microseconds by none.
func TestAddTz(t *testing.T) {
	for _, z := range tables(t) {
		for _, x := range stamps() {
			for _, s := range []api.Span{{}, {M: 1}, {M: -1}, {D: 1}, {D: -1}, {U: hour}, {M: 1, D: -31, U: 5}, {D: 1, U: -24 * hour}, {M: 240, U: -1},
				{M: mostCount}, {D: -mostCount}, {U: -math.MaxInt64}, {M: mostCount + 1}, {U: math.MinInt64}, {Inf: 1}, {Inf: -1}, {Inf: 3}} {
				want, e := addedTz(z, x, s)
				checkAddTz(t, z, x, s, want, e)
			}
		}
	}
	r := rand.New(rand.NewSource(174))
	all := tables(t)
	for range 60000 {
		z, x, s := all[r.Intn(len(all))], some(r), someSpan(r)
		want, e := addedTz(z, x, s)
		checkAddTz(t, z, x, s, want, e)
	}
}

// P17.2: what clocks say must be able to be, if there are months or days, and just then.
func TestAddTzStepByStep(t *testing.T) {
	east, west := comp.Table{First: api.Tran{Off: 57600}}, comp.Table{First: api.Tran{Off: -57600}}
	checkAddTz(t, east, last(), api.Span{D: -5}, api.Stamp{}, api.ErrRange)
	checkAddTz(t, east, last(), api.Span{M: -5}, api.Stamp{}, api.ErrRange)
	checkAddTz(t, east, last(), api.Span{U: -5}, api.Stamp{U: last().U - 5}, api.OK)
	checkAddTz(t, west, first(), api.Span{D: 5}, api.Stamp{}, api.ErrRange)
	checkAddTz(t, west, first(), api.Span{U: 5}, api.Stamp{U: first().U + 5}, api.OK)
	checkAddTz(t, east, api.Stamp{U: last().U - dayMicro}, api.Span{D: 1}, api.Stamp{}, api.ErrRange)
	z := berlin(t)
	// Into the hour that clocks leave out, and out of it by microseconds.
	checkAddTz(t, z, at(2024, 3, 30, 3*hour/2), api.Span{D: 1}, at(2024, 3, 31, 3*hour/2), api.OK)
	checkAddTz(t, z, at(2024, 3, 30, 3*hour/2), api.Span{D: 1, U: -hour}, at(2024, 3, 31, hour/2), api.OK)
	checkAddTz(t, z, at(2024, 2, 29, 3*hour/2), api.Span{M: 1, D: 2}, at(2024, 3, 31, 3*hour/2), api.OK)
	// Into the hour that clocks say twice: its first one.
	checkAddTz(t, z, at(2024, 10, 26, hour/2), api.Span{D: 1}, at(2024, 10, 27, hour/2), api.OK)
	checkAddTz(t, z, at(2024, 10, 28, 3*hour/2), api.Span{D: -1}, at(2024, 10, 27, hour/2), api.OK)
	// Nothing on leaves the later one of two readings as it is; a day on and back does not.
	checkAddTz(t, z, at(2024, 10, 27, 3*hour/2), api.Span{}, at(2024, 10, 27, 3*hour/2), api.OK)
}

// P17.3 and P17.4: all edges together.
func TestApart(t *testing.T) {
	for _, a := range stamps() {
		for _, b := range stamps() {
			want, e := apart(a, b)
			checkSub(t, a, b, want, e)
			want, e = aged(a, b)
			checkAge(t, a, b, want, e)
		}
	}
	r := rand.New(rand.NewSource(175))
	for range 60000 {
		a, b := some(r), some(r)
		want, e := apart(a, b)
		checkSub(t, a, b, want, e)
		want, e = aged(a, b)
		checkAge(t, a, b, want, e)
	}
}

// P17.3: of Infs, and cut towards nought.
func TestSub(t *testing.T) {
	ahead, behind, x := api.Stamp{Inf: -1}, api.Stamp{Inf: 1}, at(2024, 3, 1, 5)
	for _, c := range []struct {
		a, b api.Stamp
		want api.Span
		e    api.Errno
	}{
		{behind, behind, api.Span{}, api.ErrRange},
		{ahead, ahead, api.Span{}, api.ErrRange},
		{behind, ahead, api.Span{Inf: 1}, api.OK},
		{ahead, behind, api.Span{Inf: -1}, api.OK},
		{behind, x, api.Span{Inf: 1}, api.OK},
		{ahead, x, api.Span{Inf: -1}, api.OK},
		{x, behind, api.Span{Inf: -1}, api.OK},
		{x, ahead, api.Span{Inf: 1}, api.OK},
		{x, api.Stamp{Inf: 2}, api.Span{}, api.ErrArg},
		{api.Stamp{Inf: 1, U: 1}, behind, api.Span{}, api.ErrArg},
	} {
		checkSub(t, c.a, c.b, c.want, c.e)
		checkAge(t, c.a, c.b, c.want, c.e)
	}
	checkSub(t, at(2024, 3, 1, 0), at(2024, 2, 28, hour), api.Span{D: 1, U: 23 * hour}, api.OK)
	checkSub(t, at(2024, 2, 28, hour), at(2024, 3, 1, 0), api.Span{D: -1, U: -23 * hour}, api.OK)
	checkSub(t, x, x, api.Span{}, api.OK)
	checkSub(t, last(), first(), api.Span{}, api.ErrRange)
	checkSub(t, first(), last(), api.Span{}, api.ErrRange)
	// The greatest int64 of microseconds, the least one, and one more of each.
	top := api.Stamp{U: last().U - math.MaxInt64}
	checkSub(t, last(), top, api.Span{D: 106751991, U: 14454775807}, api.OK)
	checkSub(t, last(), api.Stamp{U: top.U - 1}, api.Span{}, api.ErrRange)
	checkSub(t, top, last(), api.Span{D: -106751991, U: -14454775807}, api.OK)
	checkSub(t, api.Stamp{U: top.U - 1}, last(), api.Span{D: -106751991, U: -14454775808}, api.OK)
	checkSub(t, api.Stamp{U: top.U - 2}, last(), api.Span{}, api.ErrRange)
}

// P17.4: as many months as there are, also at months' ends.
func TestAge(t *testing.T) {
	for _, c := range []struct {
		a, b api.Stamp
		want api.Span
	}{
		{at(2024, 3, 1, 0), at(2024, 1, 31, 0), api.Span{M: 1, D: 1}},
		{at(2024, 1, 31, 0), at(2024, 3, 1, 0), api.Span{M: -1, D: -1}},
		{at(2024, 2, 29, 0), at(2024, 1, 31, 0), api.Span{M: 1}},
		{at(2024, 2, 28, 0), at(2024, 1, 31, 0), api.Span{D: 28}},
		{at(2024, 2, 29, 4), at(2024, 1, 31, 5), api.Span{D: 28, U: dayMicro - 1}},
		{at(2024, 2, 29, 5), at(2024, 1, 31, 5), api.Span{M: 1}},
		{at(2025, 2, 28, 0), at(2024, 2, 29, 0), api.Span{M: 12}},
		{at(2024, 2, 29, 0), at(2023, 2, 28, 0), api.Span{M: 12, D: 1}},
		{at(2024, 5, 1, 0), at(2024, 5, 1, 0), api.Span{}},
		{at(2000, 1, 1, 0), at(1999, 12, 31, dayMicro-1), api.Span{U: 1}},
		{last(), first(), api.Span{M: (mostYear-leastYear)*12 + 11, D: 30, U: dayMicro - 1}},
		{first(), last(), api.Span{M: -(mostYear-leastYear)*12 - 11, D: -30, U: -dayMicro + 1}},
	} {
		checkAge(t, c.a, c.b, c.want, api.OK)
	}
	// Month by month, up to where it would be behind.
	r := rand.New(rand.NewSource(176))
	for range 2000 {
		b := at(2020+r.Intn(4), time.Month(1+r.Intn(12)), 1+r.Intn(31), r.Int63n(3))
		a := at(2024+r.Intn(3), time.Month(1+r.Intn(12)), 1+r.Intn(31), r.Int63n(3))
		m := int64(0)
		for {
			x, _ := added(b, api.Span{M: m + 1})
			if x.U > a.U {
				break
			}
			m++
		}
		if s, e := stamp.Age(a, b); s.M != m || s.D < 0 || s.D > 30 || s.U < 0 || s.U >= dayMicro || e != api.OK {
			t.Fatal("Age", a, b, s, e, m)
		}
	}
}

// A wrong stamp, interval or zone is told ahead of all else, of Infs too.
func TestArguments(t *testing.T) {
	right := []api.Stamp{{Inf: 1}, {Inf: -1}, {}, last()}
	for _, z := range wrongTables() {
		for _, x := range right {
			checkLocal(t, z, x, api.Stamp{}, api.ErrArg)
			checkInstant(t, z, x, api.Stamp{}, 0, api.ErrArg)
			checkOffset(t, z, x, api.Tran{}, api.ErrArg)
			for _, s := range []api.Span{{Inf: 1}, {Inf: -1}, {}, {M: 1}, {U: math.MaxInt64}, {Inf: 2}} {
				checkAddTz(t, z, x, s, api.Stamp{}, api.ErrArg)
			}
		}
	}
	for _, x := range right {
		for _, s := range []api.Span{{Inf: 2}, {Inf: 1, U: 1}, {M: mostCount + 1}, {D: -mostCount - 1}, {U: math.MinInt64}} {
			checkAdd(t, x, s, api.Stamp{}, api.ErrArg)
			checkAddTz(t, zone.UTC(), x, s, api.Stamp{}, api.ErrArg)
		}
		for _, wrong := range []api.Stamp{{Inf: 2}, {Inf: -1, U: 5}, {U: last().U + 1}, {U: first().U - 1}} {
			checkAdd(t, wrong, api.Span{Inf: 1}, api.Stamp{}, api.ErrArg)
			checkSub(t, x, wrong, api.Span{}, api.ErrArg)
			checkSub(t, wrong, x, api.Span{}, api.ErrArg)
			checkAge(t, x, wrong, api.Span{}, api.ErrArg)
			checkAge(t, wrong, x, api.Span{}, api.ErrArg)
		}
	}
}

// P17.5: instants and clocks, there and back.
func TestThereAndBack(t *testing.T) {
	r := rand.New(rand.NewSource(177))
	twice, never := 0, 0
	for _, z := range tables(t) {
		for range 20000 {
			x := some(r)
			if l, e := stamp.Local(z, x); e == api.OK {
				back, often, e := stamp.Instant(z, l)
				if e == api.ErrRange && back == (api.Stamp{}) {
					continue // an earlier one that can be none
				}
				if e != api.OK || often == zone.Never || back != x && (often != zone.Twice || back.U > x.U) {
					t.Fatal("Instant of Local", z.Name, x, l, back, often, e)
				}
				if often == zone.Twice {
					twice++
				}
			}
			if i, often, e := stamp.Instant(z, x); e == api.OK {
				l, e := stamp.Local(z, i)
				if often == zone.Never {
					never++
				}
				if e == api.OK && (l == x) == (often == zone.Never) || e != api.OK && often != zone.Never {
					t.Fatal("Local of Instant", z.Name, x, i, often, l, e)
				}
			}
		}
	}
	if twice == 0 || never == 0 {
		t.Error("clocks were never shifted")
	}
}

// P17.6: a stamp is the other and how far it is apart.
func TestApartAndOn(t *testing.T) {
	r := rand.New(rand.NewSource(178))
	for range 100000 {
		a, b := some(r), some(r)
		if s, e := stamp.Sub(a, b); e == api.OK {
			checkAdd(t, b, s, a, api.OK)
		}
		if a.U >= b.U {
			s, e := stamp.Age(a, b)
			if e != api.OK {
				t.Fatal("Age", a, b, e)
			}
			checkAdd(t, b, s, a, api.OK)
		}
	}
}

// P17.7: microseconds hang on no zone.
func TestMicrosecondsOn(t *testing.T) {
	r := rand.New(rand.NewSource(179))
	all := tables(t)
	for range 100000 {
		x, s := some(r), api.Span{U: someSpan(r).U}
		want, e := stampOf(plus(x.U, s.U))
		checkAddTz(t, all[r.Intn(len(all))], x, s, want, e)
	}
}

// What is handed in stays as it is.
func TestTablesStay(t *testing.T) {
	for i, z := range tables(t) {
		x := at(2024, 3, 31, hour)
		stamp.Local(z, x)
		stamp.Instant(z, x)
		stamp.Offset(z, x)
		stamp.AddTz(z, x, api.Span{M: 1, D: 1, U: 1})
		if !reflect.DeepEqual(z, tables(t)[i]) {
			t.Error("a table was changed", i)
		}
	}
}
