package ops_test

import (
	"math"
	"math/big"
	"math/rand"
	"strings"
	"testing"
	"time"

	"computus/api"
	"computus/comp"
	"computus/dec"
	"computus/ops"
	"computus/zone"
)

func fields() []string { return append(lengths(), others()...) }

func stampValue(x api.Stamp) api.Value { return api.Value{K: api.KStamp, Stamp: x} }
func tzValue(x api.Stamp) api.Value    { return api.Value{K: api.KTz, Stamp: x} }
func dateValue(x api.Date) api.Value   { return api.Value{K: api.KDate, Date: x} }
func spanValue(x api.Span) api.Value   { return api.Value{K: api.KSpan, Span: x} }

// noFields is values of kinds that have none.
func noFields() []api.Value {
	return []api.Value{{}, {K: api.KBool}, {K: api.KBool, Bool: true}, {K: api.KInt}, {K: api.KInt, Int: -7}, {K: api.KDec, Int: 5, Scale: 1}, {K: api.KText}, {K: api.KText, Text: "2024-03-31"}}
}

// wrongValues is some that can not be.
func wrongValues() []api.Value {
	l := []api.Value{{K: -1}, {K: 9}, {Bool: true}, {K: api.KBool, Int: 1}, {K: api.KInt, Scale: 1}, {K: api.KDec, Scale: 10}, {K: api.KDec, Scale: -1}, {K: api.KText, Text: strings.Repeat("x", 2049)},
		{K: api.KDate, Stamp: api.Stamp{U: 1}}, {K: api.KStamp, Date: api.Date{D: 1}}, {K: api.KTz, Span: api.Span{U: 1}}, {K: api.KSpan, Stamp: api.Stamp{Inf: 1}},
		dateValue(api.Date{Inf: 2}), dateValue(api.Date{Inf: 1, D: 1}), dateValue(api.Date{D: math.MaxInt64}), dateValue(api.Date{D: on(mostYear, 12, 31).D + 1}),
		spanValue(api.Span{Inf: 2}), spanValue(api.Span{M: mostCount + 1}), spanValue(api.Span{U: math.MinInt64})}
	for _, x := range wrongStamps() {
		l = append(l, stampValue(x), tzValue(x))
	}
	return l
}

// decOf is the number with so many places, if it can be.
func decOf(n *big.Int, places int) (dec.Dec, api.Errno) {
	if !n.IsInt64() {
		return dec.Dec{}, api.ErrRange
	}
	return dec.Dec{N: n.Int64(), Scale: places}, api.OK
}

// whole is a number without places.
func whole[N int | int64 | time.Month | time.Weekday](n N) (dec.Dec, api.Errno) {
	return dec.Dec{N: int64(n)}, api.OK
}

// told is a year as it is told, without a year 0.
func told(y int) int {
	if y < 1 {
		return y - 1
	}
	return y
}

// ordinal is which one of so many years a year is of, counted from the year 1 on, either way.
func ordinal(y, many int) int {
	n, _ := floor(int64(y-1), int64(many))
	if n >= 0 {
		return int(n) + 1
	}
	return int(n)
}

// timeField is a field of a time, of either sign.
func timeField(name string, us int64) (dec.Dec, api.Errno) {
	switch name {
	case "hour":
		return whole(us / hour)
	case "minute":
		return whole(us / minute % 60)
	case "second":
		return dec.Dec{N: us % minute, Scale: 6}, api.OK
	case "milliseconds":
		return dec.Dec{N: us % minute, Scale: 3}, api.OK
	}
	return whole(us % minute)
}

// stampField is what Extract must tell of what clocks say.
func stampField(name string, l api.Stamp) (dec.Dec, api.Errno) {
	x := civilTime(l)
	weekYear, week := x.ISOWeek()
	switch name {
	case "year":
		return whole(told(x.Year()))
	case "isoyear":
		return whole(told(weekYear))
	case "decade":
		n, _ := floor(int64(x.Year()), 10)
		return whole(n)
	case "century":
		return whole(ordinal(x.Year(), 100))
	case "millennium":
		return whole(ordinal(x.Year(), 1000))
	case "quarter":
		return whole([]int{1, 1, 1, 2, 2, 2, 3, 3, 3, 4, 4, 4}[x.Month()-1])
	case "month":
		return whole(x.Month())
	case "week":
		return whole(week)
	case "day":
		return whole(x.Day())
	case "dow":
		return whole(x.Weekday())
	case "isodow":
		return whole((x.Weekday()+6)%7 + 1)
	case "doy":
		return whole(x.YearDay())
	case "epoch":
		return decOf(plus(l.U, since1970*micro), 6)
	}
	_, us := floor(l.U, dayMicro)
	return timeField(name, us)
}

// tzField is what Extract must tell of an instant at which clocks say what can be.
func tzField(name string, x, l api.Stamp) (dec.Dec, api.Errno) {
	switch name {
	case "epoch":
		return stampField(name, x)
	case "timezone":
		return whole((l.U - x.U) / micro)
	}
	return stampField(name, l)
}

// quo is a by b, cut.
func quo(a, b int64) int64 {
	return new(big.Int).Quo(big.NewInt(a), big.NewInt(b)).Int64()
}

// spanField is what Extract must tell of an interval.
func spanField(name string, s api.Span) (dec.Dec, api.Errno) {
	rest := s.M - 12*quo(s.M, 12)
	for unit, months := range map[string]int64{"year": 12, "decade": 120, "century": 1200, "millennium": 12000} {
		if unit == name {
			return whole(quo(s.M, months))
		}
	}
	switch name {
	case "month":
		return whole(rest)
	case "quarter":
		return whole(quo(rest, 3) + 1)
	case "day":
		return whole(s.D)
	case "epoch":
		sum := big.NewInt(s.U)
		for _, p := range [][2]int64{{quo(s.M, 12), 31557600}, {rest, 2592000}, {s.D, 86400}} {
			n := new(big.Int).Mul(big.NewInt(p[0]), big.NewInt(p[1]))
			sum.Add(sum, n.Mul(n, big.NewInt(micro)))
		}
		return decOf(sum, 6)
	}
	return timeField(name, s.U)
}

// isField: has a kind such a field?
func isField(name string, kind int) bool {
	switch name {
	case "timezone":
		return kind == api.KTz
	case "dow", "isodow", "doy", "isoyear", "week":
		return kind != api.KSpan
	}
	return true
}

func checkExtract(t *testing.T, z comp.Table, name string, v api.Value, want dec.Dec, e api.Errno) {
	t.Helper()
	if got, f := ops.Extract(z, name, v); got != want || f != e {
		t.Fatalf("Extract(%q, %.30q, %v) is %v, %d, not %v, %d", z.Name, name, v, got, f, want, e)
	}
}

// checkStampFields checks all fields of a stamp, and of the same one as an instant.
func checkStampFields(t *testing.T, z comp.Table, x api.Stamp) {
	t.Helper()
	for _, name := range fields() {
		if name != "timezone" {
			want, e := stampField(name, x)
			checkExtract(t, z, name, stampValue(x), want, e)
		}
		l, e := localOf(z, x)
		if e == api.OK {
			want, e := tzField(name, x, l)
			checkExtract(t, z, name, tzValue(x), want, e)
		} else if name != "epoch" && name != "timezone" { // which do not tell what clocks say
			checkExtract(t, z, name, tzValue(x), dec.Dec{}, e)
		}
	}
}

// P20.4: of stamps, what is written out here.
func TestExtractExamples(t *testing.T) {
	z := found(t, "Berlin")
	for _, c := range []struct {
		x    api.Stamp
		want map[string]dec.Dec
	}{
		{at(2024, 3, 31, 2*hour+30*minute+7500000), map[string]dec.Dec{"year": {N: 2024}, "isoyear": {N: 2024}, "decade": {N: 202}, "century": {N: 21}, "millennium": {N: 3}, "quarter": {N: 1}, "month": {N: 3}, "week": {N: 13}, "day": {N: 31},
			"hour": {N: 2}, "minute": {N: 30}, "second": {N: 7500000, Scale: 6}, "milliseconds": {N: 7500000, Scale: 3}, "microseconds": {N: 7500000}, "dow": {N: 0}, "isodow": {N: 7}, "doy": {N: 91}, "epoch": {N: 1711852207500000, Scale: 6}}},
		{at(2000, 1, 1, 0), map[string]dec.Dec{"century": {N: 20}, "millennium": {N: 2}, "decade": {N: 200}, "isoyear": {N: 1999}, "week": {N: 52}, "dow": {N: 6}, "isodow": {N: 6}, "doy": {N: 1}, "second": {Scale: 6}, "milliseconds": {Scale: 3}, "microseconds": {}, "epoch": {N: 946684800000000, Scale: 6}}},
		{at(2001, 12, 31, 0), map[string]dec.Dec{"century": {N: 21}, "millennium": {N: 3}, "year": {N: 2001}, "isoyear": {N: 2002}, "week": {N: 1}, "quarter": {N: 4}, "doy": {N: 365}, "dow": {N: 1}, "isodow": {N: 1}}},
		{at(0, 12, 31, dayMicro-1), map[string]dec.Dec{"year": {N: -1}, "isoyear": {N: -1}, "week": {N: 52}, "decade": {N: 0}, "century": {N: -1}, "millennium": {N: -1}, "doy": {N: 366}, "hour": {N: 23}, "minute": {N: 59}, "second": {N: 59999999, Scale: 6}}},
		{at(1, 1, 1, 0), map[string]dec.Dec{"year": {N: 1}, "isoyear": {N: 1}, "decade": {N: 0}, "century": {N: 1}, "millennium": {N: 1}, "dow": {N: 1}}},
		{at(-99, 6, 1, 0), map[string]dec.Dec{"year": {N: -100}, "decade": {N: -10}, "century": {N: -1}, "millennium": {N: -1}, "quarter": {N: 2}}},
		{at(-100, 6, 1, 0), map[string]dec.Dec{"year": {N: -101}, "decade": {N: -10}, "century": {N: -2}, "millennium": {N: -1}}},
		{at(-1000, 6, 1, 0), map[string]dec.Dec{"year": {N: -1001}, "decade": {N: -100}, "century": {N: -11}, "millennium": {N: -2}}},
		{at(-1, 6, 1, 0), map[string]dec.Dec{"year": {N: -2}, "decade": {N: -1}}},
		{first(), map[string]dec.Dec{"year": {N: -4713}, "isoyear": {N: -4713}, "week": {N: 1}, "dow": {N: 4}, "decade": {N: -472}, "century": {N: -48}, "millennium": {N: -5}}},
		{at(1969, 12, 31, dayMicro-1), map[string]dec.Dec{"epoch": {N: -1, Scale: 6}}},
	} {
		for name, want := range c.want {
			checkExtract(t, z, name, stampValue(c.x), want, api.OK)
			checkExtract(t, z, strings.ToUpper(name), stampValue(c.x), want, api.OK)
			checkExtract(t, zone.UTC(), name, tzValue(c.x), want, api.OK)
		}
	}
	// By the clocks of a zone, but seconds since 1970.
	x := at(2024, 12, 31, 23*hour+30*minute)
	for name, want := range map[string]dec.Dec{"year": {N: 2025}, "month": {N: 1}, "day": {N: 1}, "hour": {N: 0}, "minute": {N: 30}, "doy": {N: 1}, "quarter": {N: 1}, "dow": {N: 3}, "timezone": {N: 3600}, "epoch": {N: 1735687800000000, Scale: 6}} {
		checkExtract(t, z, name, tzValue(x), want, api.OK)
	}
	checkExtract(t, z, "TimeZone", tzValue(at(2024, 7, 1, 0)), dec.Dec{N: 7200}, api.OK)
	checkExtract(t, comp.Table{First: api.Tran{Off: -57600}}, "timezone", tzValue(at(2024, 7, 1, 0)), dec.Dec{N: -57600}, api.OK)
	checkExtract(t, z, "timezone", tzValue(at(1800, 7, 1, 0)), dec.Dec{N: 3208}, api.OK)
}

// P20.4: of stamps and instants, all fields by all zones.
func TestExtract(t *testing.T) {
	r := rand.New(rand.NewSource(206))
	for _, z := range tables(t) {
		all := finite()
		for range 1000 {
			all = append(all, some(r))
		}
		for _, x := range all {
			checkStampFields(t, z, x)
		}
	}
}

// P20.4: of dates, as of their beginning, by no zone.
func TestExtractDate(t *testing.T) {
	z := found(t, "Berlin")
	check := func(x api.Stamp) {
		t.Helper()
		days, _ := floor(x.U, dayMicro)
		for _, name := range fields() {
			if name == "timezone" {
				continue
			}
			want, e := stampField(name, api.Stamp{U: days * dayMicro})
			checkExtract(t, z, name, dateValue(api.Date{D: days}), want, e)
		}
	}
	for _, x := range finite() {
		check(x)
	}
	r := rand.New(rand.NewSource(207))
	for range 5000 {
		check(some(r))
	}
	for _, name := range []string{"hour", "minute", "microseconds"} {
		checkExtract(t, z, name, dateValue(on(2024, 3, 31)), dec.Dec{}, api.OK)
	}
	checkExtract(t, z, "epoch", dateValue(on(1970, 1, 2)), dec.Dec{N: dayMicro, Scale: 6}, api.OK)
}

// P20.4: what clocks say must be able to be, and seconds since 1970 an int64 of microseconds.
func TestExtractEnds(t *testing.T) {
	west, east := comp.Table{First: api.Tran{Off: -1}}, comp.Table{First: api.Tran{Off: 1}}
	for _, name := range lengths() {
		checkExtract(t, west, name, tzValue(first()), dec.Dec{}, api.ErrRange)
		checkExtract(t, east, name, tzValue(last()), dec.Dec{}, api.ErrRange)
	}
	checkExtract(t, west, "epoch", stampValue(first()), dec.Dec{N: first().U + since1970*micro, Scale: 6}, api.OK)
	checkExtract(t, west, "epoch", tzValue(at(leastYear, 1, 2, 0)), dec.Dec{N: first().U + dayMicro + since1970*micro, Scale: 6}, api.OK)
	most := api.Stamp{U: math.MaxInt64 - since1970*micro}
	checkExtract(t, west, "epoch", stampValue(most), dec.Dec{N: math.MaxInt64, Scale: 6}, api.OK)
	checkExtract(t, west, "epoch", tzValue(most), dec.Dec{N: math.MaxInt64, Scale: 6}, api.OK)
	checkExtract(t, west, "epoch", stampValue(api.Stamp{U: most.U + 1}), dec.Dec{}, api.ErrRange)
	checkExtract(t, west, "epoch", tzValue(api.Stamp{U: most.U + 1}), dec.Dec{}, api.ErrRange)
	checkExtract(t, west, "epoch", dateValue(on(mostYear, 12, 31)), dec.Dec{}, api.ErrRange)
	checkExtract(t, west, "year", dateValue(on(mostYear, 12, 31)), dec.Dec{N: mostYear}, api.OK)
}

// P20.4: of intervals, what is written out here.
func TestExtractSpanExamples(t *testing.T) {
	for _, c := range []struct {
		s    api.Span
		want map[string]dec.Dec
	}{
		{api.Span{U: 1500000}, map[string]dec.Dec{"second": {N: 1500000, Scale: 6}, "milliseconds": {N: 1500000, Scale: 3}, "microseconds": {N: 1500000}, "epoch": {N: 1500000, Scale: 6}, "minute": {}, "quarter": {N: 1}}},
		{api.Span{M: -14, D: -3, U: -(25*hour + 61*minute + 1500000)}, map[string]dec.Dec{"year": {N: -1}, "month": {N: -2}, "quarter": {N: 1}, "day": {N: -3}, "hour": {N: -26}, "minute": {N: -1}, "second": {N: -1500000, Scale: 6},
			"decade": {}, "epoch": {N: -(31557600+2*2592000+3*86400+26*3600+61)*micro - 500000, Scale: 6}}},
		{api.Span{M: 14}, map[string]dec.Dec{"year": {N: 1}, "month": {N: 2}, "quarter": {N: 1}}},
		{api.Span{M: 3}, map[string]dec.Dec{"quarter": {N: 2}}},
		{api.Span{M: 11}, map[string]dec.Dec{"quarter": {N: 4}, "year": {}}},
		{api.Span{M: -3}, map[string]dec.Dec{"quarter": {}}},
		{api.Span{M: -11}, map[string]dec.Dec{"quarter": {N: -2}}},
		{api.Span{M: -12}, map[string]dec.Dec{"quarter": {N: 1}, "year": {N: -1}, "month": {}}},
		{api.Span{M: 119}, map[string]dec.Dec{"decade": {}, "year": {N: 9}}},
		{api.Span{M: 120}, map[string]dec.Dec{"decade": {N: 1}, "century": {}}},
		{api.Span{M: -1199}, map[string]dec.Dec{"decade": {N: -9}, "century": {}}},
		{api.Span{M: 1200}, map[string]dec.Dec{"century": {N: 1}, "millennium": {}}},
		{api.Span{M: -11999}, map[string]dec.Dec{"century": {N: -9}, "millennium": {}}},
		{api.Span{M: -12000}, map[string]dec.Dec{"century": {N: -10}, "millennium": {N: -1}}},
		{api.Span{U: 100 * hour}, map[string]dec.Dec{"hour": {N: 100}, "day": {}}},
		{api.Span{M: mostCount, D: -mostCount, U: math.MaxInt64}, map[string]dec.Dec{"year": {N: 178956970}, "month": {N: 7}, "day": {N: -mostCount}, "hour": {N: 2562047788}, "second": {N: 54775807, Scale: 6}}},
	} {
		for name, want := range c.want {
			checkExtract(t, zone.UTC(), name, spanValue(c.s), want, api.OK)
			checkExtract(t, zone.UTC(), strings.ToUpper(name), spanValue(c.s), want, api.OK)
		}
	}
}

// P20.4: of intervals, all fields.
func TestExtractSpan(t *testing.T) {
	r := rand.New(rand.NewSource(208))
	pick := func(most int64) int64 {
		switch r.Intn(4) {
		case 0:
			return 0
		case 1:
			return r.Int63n(most) - r.Int63n(most)
		case 2:
			return r.Int63n(30000) - 15000
		}
		return r.Int63n(80) - 40
	}
	all := []api.Span{{}, {M: mostCount, D: mostCount, U: math.MaxInt64}, {M: -mostCount, D: -mostCount, U: -math.MaxInt64}}
	for range 30000 {
		all = append(all, api.Span{M: pick(mostCount), D: pick(mostCount), U: pick(math.MaxInt64)})
		all = append(all, api.Span{M: pick(6000000), D: pick(200000000), U: pick(math.MaxInt64)})
	}
	seen := map[api.Errno]int{}
	for _, s := range all {
		for _, name := range fields() {
			if !isField(name, api.KSpan) {
				continue
			}
			want, e := spanField(name, s)
			checkExtract(t, zone.UTC(), name, spanValue(s), want, e)
			seen[e]++
		}
	}
	if seen[api.OK] == 0 || seen[api.ErrRange] == 0 {
		t.Error("not all was seen:", seen)
	}
}

// P20.4: seconds of an interval are told just if their microseconds are an int64, whatever its parts are.
func TestExtractSpanEnds(t *testing.T) {
	for _, c := range []struct {
		s    api.Span
		want int64
		e    api.Errno
	}{
		{api.Span{U: math.MaxInt64}, math.MaxInt64, api.OK},
		{api.Span{U: -math.MaxInt64}, -math.MaxInt64, api.OK},
		{api.Span{D: 1, U: math.MaxInt64}, 0, api.ErrRange},
		{api.Span{D: -1, U: -math.MaxInt64}, 0, api.ErrRange},
		{api.Span{D: 1, U: math.MaxInt64 - dayMicro}, math.MaxInt64, api.OK},
		{api.Span{D: 1, U: math.MaxInt64 - dayMicro + 1}, 0, api.ErrRange},
		{api.Span{D: -1, U: math.MinInt64 + dayMicro}, math.MinInt64, api.OK},
		{api.Span{D: -1, U: math.MinInt64 + dayMicro - 1}, 0, api.ErrRange},
		{api.Span{D: -106751992, U: 71945224192}, math.MinInt64, api.OK},
		{api.Span{D: -106751992, U: 71945224191}, 0, api.ErrRange},
		{api.Span{D: 106751992, U: -71945224193}, math.MaxInt64, api.OK},
		{api.Span{D: 106751992, U: -71945224192}, 0, api.ErrRange},
		{api.Span{M: 12 * 400000, D: -146100000}, 0, api.OK},
		{api.Span{M: 12 * 400000}, 0, api.ErrRange},
		{api.Span{M: -12 * 400000, D: 146100000, U: -1}, -1, api.OK},
		{api.Span{M: -12 * 400000, D: 146100001, U: -1}, dayMicro - 1, api.OK},
		{api.Span{M: mostCount}, 0, api.ErrRange},
	} {
		want := dec.Dec{}
		if c.e == api.OK {
			want = dec.Dec{N: c.want, Scale: 6}
		}
		checkExtract(t, zone.UTC(), "epoch", spanValue(c.s), want, c.e)
	}
}

// P20.4: what is wrong, and in which order it is told.
func TestExtractErrors(t *testing.T) {
	z := found(t, "Berlin")
	names := append(fields(), unknown()...)
	sure := []api.Value{dateValue(api.Date{}), stampValue(api.Stamp{}), tzValue(api.Stamp{}), spanValue(api.Span{})}
	ends := []api.Value{}
	for _, inf := range []int{1, -1} {
		ends = append(ends, dateValue(api.Date{Inf: inf}), stampValue(api.Stamp{Inf: inf}), tzValue(api.Stamp{Inf: inf}), spanValue(api.Span{Inf: inf}))
	}
	for _, name := range names {
		for _, v := range wrongValues() {
			checkExtract(t, z, name, v, dec.Dec{}, api.ErrArg)
		}
		for _, wrong := range wrongTables() {
			for _, v := range append(append(noFields(), sure...), ends...) {
				checkExtract(t, wrong, name, v, dec.Dec{}, api.ErrArg)
			}
		}
		for _, v := range noFields() {
			checkExtract(t, z, name, v, dec.Dec{}, api.ErrType)
		}
	}
	for _, name := range unknown() {
		for _, v := range append(ends, sure...) {
			checkExtract(t, z, name, v, dec.Dec{}, api.ErrName)
		}
	}
	for _, name := range fields() {
		for _, v := range sure {
			if !isField(name, v.K) {
				checkExtract(t, z, name, v, dec.Dec{}, api.ErrName)
			} else if _, e := ops.Extract(z, name, v); e != api.OK {
				t.Error("Extract", name, v, e)
			}
		}
		for _, v := range ends {
			e := api.ErrRange
			if !isField(name, v.K) {
				e = api.ErrName
			}
			checkExtract(t, z, name, v, dec.Dec{}, e)
		}
	}
}

// P20.8: fields of a stamp make it again: of the calendar, of weeks, of the year's days, of seconds since 1970.
func TestFieldsMakeIt(t *testing.T) {
	r := rand.New(rand.NewSource(209))
	for range 30000 {
		x := some(r)
		n := func(name string) int {
			got, e := ops.Extract(zone.UTC(), name, stampValue(x))
			if e != api.OK {
				t.Fatal("Extract", name, x, e)
			}
			return int(got.N)
		}
		year := func(name string) int {
			if y := n(name); y > 0 {
				return y
			}
			return n(name) + 1
		}
		us := int64(n("hour"))*hour + int64(n("minute"))*minute + int64(n("microseconds"))
		if n("second") != n("microseconds") || n("milliseconds") != n("microseconds") {
			t.Fatal("second", x)
		}
		if got := at(year("year"), time.Month(n("month")), n("day"), us); got != x {
			t.Fatal("day", x, got)
		}
		if got := at(year("year"), 1, n("doy"), us); got != x {
			t.Fatal("doy", x, got)
		}
		// January 4 is of the first week of its year.
		fourth := int(civilTime(at(year("isoyear"), 1, 4, 0)).Weekday()+6) % 7
		if got := at(year("isoyear"), 1, 4-fourth+7*(n("week")-1)+n("isodow")-1, us); got != x {
			t.Fatal("week", x, got)
		}
		if n("quarter") != (n("month")+2)/3 || n("dow") != n("isodow")%7 {
			t.Fatal("quarter, dow", x)
		}
		if x.U < math.MaxInt64-since1970*micro {
			if got, e := ops.Extract(zone.UTC(), "epoch", stampValue(x)); got != (dec.Dec{N: x.U + since1970*micro, Scale: 6}) || e != api.OK {
				t.Fatal("epoch", x, got, e)
			}
		}
	}
}
