package series_test

import (
	"math"
	"math/big"
	"math/rand"
	"reflect"
	"slices"
	"testing"
	"time"
	_ "time/tzdata"

	"computus/api"
	"computus/comp"
	"computus/day"
	"computus/names"
	"computus/series"
	"computus/span"
	"computus/stamp"
	"computus/zone"
)

const (
	dayMicro  = 86400000000
	micro     = 1000000
	hour      = 3600 * micro
	since1970 = 946684800
	mostCount = 2147483647 // months, and days
	mostRows  = 1000
)

// example is the document's own source.
const example = "Rule EU 1977 1980 - Apr Sun>=1 1:00u 1:00 S\n" +
	"Rule EU 1981 max - Mar lastSun 1:00u 1:00 S\n" +
	"Rule EU 1996 max - Oct lastSun 1:00u 0:00 -\n" +
	"Zone Europe/Berlin 0:53:28 - LMT 1893 Apr 1 0:00\n" +
	"1:00 EU CE%sT\n" +
	"Link Europe/Berlin Berlin\n"

func berlin(t *testing.T) comp.Table {
	t.Helper()
	b, _, _, e := names.Load(example)
	if e != api.OK {
		t.Fatal("Load", e)
	}
	z, e := b.Find("Berlin")
	if e != api.OK {
		t.Fatal("Find", e)
	}
	return z
}

// at is the stamp of a time of a day.
func at(t *testing.T, y, m, d, us int64) api.Stamp {
	t.Helper()
	x, e := day.Make(y, m, d)
	if e != api.OK {
		t.Fatal("Make", y, m, d, e)
	}
	s, e := day.Stamp(x, us)
	if e != api.OK {
		t.Fatal("Stamp", x, us, e)
	}
	return s
}

func first(t *testing.T) api.Stamp { return at(t, -4712, 1, 1, 0) }

func last(t *testing.T) api.Stamp { return at(t, 294276, 12, 31, dayMicro-1) }

func wrongMosts() []int {
	return []int{-1, mostRows + 1, math.MinInt, math.MaxInt, math.MinInt32, math.MaxInt32}
}

func wrongStamps(t *testing.T) []api.Stamp {
	return []api.Stamp{{Inf: 2}, {Inf: -2}, {Inf: 1, U: 1}, {Inf: -1, U: -1}, {U: math.MaxInt64}, {U: math.MinInt64}, {U: last(t).U + 1}, {U: first(t).U - 1}}
}

func wrongSpans() []api.Span {
	return []api.Span{{Inf: 2}, {Inf: 1, M: 1}, {Inf: -1, D: 1}, {Inf: 1, U: 1}, {M: mostCount + 1}, {D: -mostCount - 1}, {U: math.MinInt64}}
}

func wrongTables() []comp.Table {
	return []comp.Table{{First: api.Tran{Off: 57601}}, {First: api.Tran{At: 1}}, {Trans: []api.Tran{{At: 5}, {At: 5}}}, {Foot: comp.Foot{Has: true}}}
}

// bigCount is how many numbers there are, reckoned with numbers of any size.
func bigCount(a, b, step int64) *big.Int {
	way := new(big.Int).Sub(big.NewInt(b), big.NewInt(a))
	n := new(big.Int)
	if way.Sign() != 0 && way.Sign() != big.NewInt(step).Sign() {
		return n
	}
	n.Quo(way, big.NewInt(step))
	return n.Add(n, big.NewInt(1))
}

func checkInts(t *testing.T, a, b, step int64, most int) {
	t.Helper()
	l, e := series.Ints(a, b, step, most)
	n, en := series.Count(a, b, step)
	if step == 0 {
		if l != nil || n != 0 || e != api.ErrZero || en != api.ErrZero {
			t.Fatal("Ints", a, b, step, most, l, n, e, en)
		}
		return
	}
	want := bigCount(a, b, step)
	if !want.IsUint64() {
		if l != nil || n != 0 || e != api.ErrRows || en != api.ErrRange {
			t.Fatal("Ints", a, b, step, most, l, n, e, en)
		}
		return
	}
	if en != api.OK || n != want.Uint64() {
		t.Fatal("Count", a, b, step, n, en, want)
	}
	if n > uint64(most) {
		if l != nil || e != api.ErrRows {
			t.Fatal("Ints", a, b, step, most, l, e)
		}
		return
	}
	if e != api.OK || uint64(len(l)) != n {
		t.Fatal("Ints", a, b, step, most, l, e)
	}
	for i, x := range l {
		k := new(big.Int).Mul(big.NewInt(step), big.NewInt(int64(i)))
		if k.Add(k, big.NewInt(a)); !k.IsInt64() || k.Int64() != x {
			t.Fatal("Ints", a, b, step, most, i, x, k)
		}
	}
}

// P21.1: numbers and how many there are, at all edges.
func TestInts(t *testing.T) {
	edges := []int64{math.MinInt64, math.MinInt64 + 1, math.MinInt64 + 2, math.MinInt64 / 2, math.MinInt64/2 - 1, -1000, -7, -2, -1, 0, 1, 2, 3, 7, 999, 1000, math.MaxInt64 / 2, math.MaxInt64/2 + 1, math.MaxInt64 - 2, math.MaxInt64 - 1, math.MaxInt64}
	for _, a := range edges {
		for _, b := range edges {
			for _, step := range edges {
				for _, most := range []int{0, 1, 2, 3, 4, 999, mostRows} {
					checkInts(t, a, b, step, most)
				}
			}
		}
	}
	r := rand.New(rand.NewSource(211))
	for range 20000 {
		checkInts(t, r.Int63n(40)-20, r.Int63n(40)-20, r.Int63n(11)-5, r.Intn(45))
		checkInts(t, int64(r.Uint64()), int64(r.Uint64()), int64(r.Uint64()), r.Intn(mostRows+1))
		checkInts(t, int64(r.Uint64()), int64(r.Uint64()), int64(r.Uint64())>>r.Intn(63), r.Intn(mostRows+1))
	}
}

// P21.1: the examples, and the numbers that stand beside limits.
func TestIntsByHand(t *testing.T) {
	for _, x := range []struct {
		a, b, step int64
		most       int
		want       []int64
		err        api.Errno
	}{
		{1, 10, 4, 9, []int64{1, 5, 9}, api.OK},
		{1, 9, 4, 3, []int64{1, 5, 9}, api.OK},
		{1, 9, 4, 2, nil, api.ErrRows},
		{10, 1, -4, 9, []int64{10, 6, 2}, api.OK},
		{5, 5, 1, 1, []int64{5}, api.OK},
		{5, 5, -1, 1, []int64{5}, api.OK},
		{5, 5, 1, 0, nil, api.ErrRows},
		{5, 4, 1, 0, nil, api.OK},
		{4, 5, -1, 0, nil, api.OK},
		{5, 4, 0, 0, nil, api.ErrZero},
		{math.MaxInt64 - 1, math.MaxInt64, 1, 9, []int64{math.MaxInt64 - 1, math.MaxInt64}, api.OK},
		{math.MinInt64 + 1, math.MinInt64, -1, 9, []int64{math.MinInt64 + 1, math.MinInt64}, api.OK},
		{math.MinInt64, math.MaxInt64, math.MaxInt64, 9, []int64{math.MinInt64, -1, math.MaxInt64 - 1}, api.OK},
		{math.MaxInt64, math.MinInt64, math.MinInt64, 9, []int64{math.MaxInt64, -1}, api.OK},
		{math.MinInt64, math.MaxInt64, 1, 9, nil, api.ErrRows},
		{math.MaxInt64, math.MinInt64, -1, mostRows, nil, api.ErrRows},
	} {
		if l, e := series.Ints(x.a, x.b, x.step, x.most); e != x.err || !slices.Equal(l, x.want) {
			t.Error("Ints", x, l, e)
		}
	}
	if l, e := series.Ints(1, mostRows, 1, mostRows); e != api.OK || len(l) != mostRows || l[mostRows-1] != mostRows {
		t.Error("Ints", len(l), e)
	}
	if l, e := series.Ints(0, mostRows, 1, mostRows); e != api.ErrRows || l != nil {
		t.Error("Ints", len(l), e)
	}
	for _, most := range wrongMosts() {
		for _, step := range []int64{-1, 0, 1} {
			if l, e := series.Ints(1, 2, step, most); e != api.ErrArg || l != nil {
				t.Error("Ints", step, most, l, e)
			}
		}
	}
}

// P21.1: just two series are too long to be counted.
func TestCountByHand(t *testing.T) {
	for _, x := range []struct {
		a, b, step int64
		want       uint64
		err        api.Errno
	}{
		{math.MinInt64, math.MaxInt64, 1, 0, api.ErrRange},
		{math.MaxInt64, math.MinInt64, -1, 0, api.ErrRange},
		{math.MinInt64, math.MaxInt64 - 1, 1, math.MaxUint64, api.OK},
		{math.MinInt64 + 1, math.MaxInt64, 1, math.MaxUint64, api.OK},
		{math.MaxInt64, math.MinInt64 + 1, -1, math.MaxUint64, api.OK},
		{math.MaxInt64 - 1, math.MinInt64, -1, math.MaxUint64, api.OK},
		{math.MinInt64, math.MaxInt64, 2, 1 << 63, api.OK},
		{math.MaxInt64, math.MinInt64, -2, 1 << 63, api.OK},
		{math.MinInt64, math.MaxInt64, -1, 0, api.OK},
		{math.MaxInt64, math.MinInt64, 1, 0, api.OK},
		{math.MinInt64, math.MaxInt64, 0, 0, api.ErrZero},
		{0, 0, 0, 0, api.ErrZero},
		{0, 0, math.MinInt64, 1, api.OK},
		{1, 10, 4, 3, api.OK},
	} {
		if n, e := series.Count(x.a, x.b, x.step); n != x.want || e != x.err {
			t.Error("Count", x, n, e)
		}
	}
}

// asked is one call of Stamps, or of Tz in z.
type asked struct {
	z    *comp.Table
	a, b api.Stamp
	step api.Span
	most int
}

func (x asked) answer() ([]api.Stamp, api.Errno) {
	if x.z == nil {
		return series.Stamps(x.a, x.b, x.step, x.most)
	}
	return series.Tz(*x.z, x.a, x.b, x.step, x.most)
}

func (x asked) next(l api.Stamp) (api.Stamp, api.Errno) {
	if x.z == nil {
		return stamp.Add(l, x.step)
	}
	return stamp.AddTz(*x.z, l, x.step)
}

// same: how two lists of stamps are held against each other.
func same(a, b []api.Stamp) bool {
	return slices.Equal(a, b)
}

// P21.2: what a month, a day, an hour lead to, and back.
func TestStampsByHand(t *testing.T) {
	inf, minf := api.Stamp{Inf: 1}, api.Stamp{Inf: -1}
	jan31 := at(t, 2024, 1, 31, 0)
	noon := func(y, m, d int64) api.Stamp { return at(t, y, m, d, 12*hour) }
	for i, x := range []struct {
		asked
		want []api.Stamp
		err  api.Errno
	}{
		{asked{nil, jan31, at(t, 2024, 5, 1, 0), api.Span{M: 1}, 9}, []api.Stamp{jan31, at(t, 2024, 2, 29, 0), at(t, 2024, 3, 29, 0), at(t, 2024, 4, 29, 0)}, api.OK},
		{asked{nil, jan31, at(t, 2024, 4, 29, 0), api.Span{M: 1}, 4}, []api.Stamp{jan31, at(t, 2024, 2, 29, 0), at(t, 2024, 3, 29, 0), at(t, 2024, 4, 29, 0)}, api.OK},
		{asked{nil, jan31, at(t, 2024, 4, 29, 0), api.Span{M: 1}, 3}, nil, api.ErrRows},
		{asked{nil, jan31, api.Stamp{U: at(t, 2024, 4, 29, 0).U - 1}, api.Span{M: 1}, 3}, []api.Stamp{jan31, at(t, 2024, 2, 29, 0), at(t, 2024, 3, 29, 0)}, api.OK},
		{asked{nil, noon(2024, 3, 31), noon(2024, 1, 1), api.Span{M: -1}, 9}, []api.Stamp{noon(2024, 3, 31), noon(2024, 2, 29), noon(2024, 1, 29)}, api.OK},
		{asked{nil, noon(2024, 3, 31), noon(2024, 1, 29), api.Span{M: -1}, 2}, nil, api.ErrRows},
		// None, just if a lies beyond b.
		{asked{nil, jan31, jan31, api.Span{U: 1}, 1}, []api.Stamp{jan31}, api.OK},
		{asked{nil, jan31, jan31, api.Span{U: -1}, 1}, []api.Stamp{jan31}, api.OK},
		{asked{nil, jan31, jan31, api.Span{U: 1}, 0}, nil, api.ErrRows},
		{asked{nil, jan31, api.Stamp{U: jan31.U - 1}, api.Span{U: 1}, 0}, nil, api.OK},
		{asked{nil, jan31, api.Stamp{U: jan31.U + 1}, api.Span{U: -1}, 0}, nil, api.OK},
		{asked{nil, jan31, minf, api.Span{U: 1}, 9}, nil, api.OK},
		{asked{nil, jan31, inf, api.Span{U: -1}, 9}, nil, api.OK},
		// No end: as many as may be, or as can be.
		{asked{nil, jan31, inf, api.Span{D: 1}, 9}, nil, api.ErrRows},
		{asked{nil, jan31, minf, api.Span{D: -1}, mostRows}, nil, api.ErrRows},
		{asked{nil, last(t), inf, api.Span{D: 1}, 9}, nil, api.ErrRange},
		{asked{nil, last(t), last(t), api.Span{D: 1}, 9}, nil, api.ErrRange},
		{asked{nil, last(t), last(t), api.Span{D: 1}, 1}, nil, api.ErrRange},
		{asked{nil, last(t), last(t), api.Span{D: 1}, 0}, nil, api.ErrRows},
		{asked{nil, first(t), first(t), api.Span{U: -1}, 1}, nil, api.ErrRange},
		{asked{nil, api.Stamp{U: last(t).U - 1}, last(t), api.Span{U: 1}, 9}, nil, api.ErrRange},
		{asked{nil, api.Stamp{U: last(t).U - 1}, api.Stamp{U: last(t).U - 1}, api.Span{U: 1}, 9}, []api.Stamp{{U: last(t).U - 1}}, api.OK},
		{asked{nil, jan31, inf, api.Span{M: mostCount}, 9}, nil, api.ErrRange},
		// What leads nowhere, or back.
		{asked{nil, jan31, inf, api.Span{M: 1, D: -29}, 9}, nil, api.ErrZero},
		{asked{nil, jan31, inf, api.Span{M: 1, D: -29}, 2}, nil, api.ErrZero},
		{asked{nil, jan31, inf, api.Span{M: 1, D: -29}, 1}, nil, api.ErrRows},
		{asked{nil, jan31, inf, api.Span{M: 1, D: -29, U: -1}, 2}, nil, api.ErrZero},
		{asked{nil, jan31, inf, api.Span{M: 1, D: -29, U: -1}, 1}, nil, api.ErrRows},
		{asked{nil, jan31, inf, api.Span{M: 1, D: -29, U: 1}, 9}, nil, api.ErrRows},
		{asked{nil, jan31, minf, api.Span{M: -1, D: 30, U: -1}, 9}, nil, api.ErrRows},
		{asked{nil, noon(2024, 3, 1), minf, api.Span{M: -1, D: 29}, 9}, nil, api.ErrZero},
		{asked{nil, noon(2024, 3, 1), minf, api.Span{M: -1, D: 29, U: 1}, 9}, nil, api.ErrZero},
		{asked{nil, noon(2024, 3, 1), minf, api.Span{M: -1, D: 29}, 1}, nil, api.ErrRows},
		// Some of them lead on ahead of the one that does not.
		{asked{nil, at(t, 2024, 1, 1, 0), inf, api.Span{M: 1, D: -29}, 99}, nil, api.ErrZero},
		{asked{nil, at(t, 2024, 1, 1, 0), inf, api.Span{M: 1, D: -29}, 17}, nil, api.ErrZero},
		{asked{nil, at(t, 2024, 1, 1, 0), inf, api.Span{M: 1, D: -29}, 16}, nil, api.ErrRows},
		{asked{nil, at(t, 2024, 1, 1, 0), at(t, 2024, 1, 2, 0), api.Span{M: 1, D: -29}, 9}, []api.Stamp{at(t, 2024, 1, 1, 0)}, api.OK},
	} {
		if l, e := x.answer(); e != x.err || !same(l, x.want) {
			t.Error("Stamps", i, x.asked, l, e)
		}
	}
}

// P21.2: the errors, in their order, of both calls.
func TestStampErrors(t *testing.T) {
	inf, minf := api.Stamp{Inf: 1}, api.Stamp{Inf: -1}
	jan, feb := at(t, 2024, 1, 1, 0), at(t, 2024, 2, 1, 0)
	on := api.Span{D: 1}
	utc := zone.UTC()
	type call struct {
		a, b api.Stamp
		step api.Span
		most int
		want api.Errno
	}
	var all []call
	for _, most := range wrongMosts() {
		all = append(all, call{jan, feb, on, most, api.ErrArg}, call{inf, feb, on, most, api.ErrArg}, call{jan, feb, api.Span{}, most, api.ErrArg}, call{feb, jan, on, most, api.ErrArg})
	}
	for _, w := range wrongStamps(t) {
		all = append(all, call{w, feb, on, 9, api.ErrArg}, call{jan, w, on, 9, api.ErrArg}, call{inf, w, on, 9, api.ErrArg}, call{w, feb, api.Span{Inf: 1}, 9, api.ErrArg}, call{jan, w, api.Span{}, 0, api.ErrArg})
	}
	for _, w := range wrongSpans() {
		all = append(all, call{jan, feb, w, 9, api.ErrArg}, call{inf, feb, w, 9, api.ErrArg}, call{feb, jan, w, 0, api.ErrArg})
	}
	for _, end := range []api.Stamp{jan, feb, inf, minf} {
		all = append(all, call{inf, end, on, 9, api.ErrRange}, call{minf, end, on, 9, api.ErrRange}, call{inf, end, api.Span{}, 0, api.ErrRange},
			call{jan, end, api.Span{Inf: 1}, 9, api.ErrRange}, call{jan, end, api.Span{Inf: -1}, 0, api.ErrRange},
			call{jan, end, api.Span{}, 9, api.ErrZero}, call{jan, end, api.Span{M: 1, D: -30}, 9, api.ErrZero}, call{jan, end, api.Span{M: -1, D: 29, U: dayMicro}, 0, api.ErrZero}, call{jan, end, api.Span{D: -1, U: dayMicro}, 9, api.ErrZero})
	}
	for _, x := range all {
		if l, e := series.Stamps(x.a, x.b, x.step, x.most); e != x.want || l != nil {
			t.Error("Stamps", x, l, e)
		}
		if l, e := series.Tz(utc, x.a, x.b, x.step, x.most); e != x.want || l != nil {
			t.Error("Tz", x, l, e)
		}
		for _, z := range wrongTables() {
			if l, e := series.Tz(z, x.a, x.b, x.step, x.most); e != api.ErrArg || l != nil {
				t.Error("Tz", z, x, l, e)
			}
		}
	}
	for _, z := range wrongTables() {
		if l, e := series.Tz(z, jan, feb, on, 99); e != api.ErrArg || l != nil {
			t.Error("Tz", z, l, e)
		}
	}
	if l, e := series.Tz(comp.Table{}, jan, feb, on, 99); e != api.OK || len(l) != 32 {
		t.Error("Tz of the zero table", l, e)
	}
}

// fromTime is the instant of package time's.
func fromTime(x time.Time) api.Stamp {
	return api.Stamp{U: (x.Unix()-since1970)*micro + int64(x.Nanosecond()/1000)}
}

// P21.2: days and hours of Berlin, held against package time.
func TestTzByClocks(t *testing.T) {
	z := berlin(t)
	place, err := time.LoadLocation("Europe/Berlin")
	if err != nil {
		t.Fatal(err)
	}
	r := rand.New(rand.NewSource(212))
	for range 200 {
		// From 4 o'clock on no clocks of Berlin are shifted.
		start := time.Date(2000+r.Intn(30), time.Month(1+r.Intn(12)), 1+r.Intn(28), 4+r.Intn(20), r.Intn(60), r.Intn(60), 1000*r.Intn(1000000), place)
		days, many := 1+r.Intn(40), r.Intn(60)
		for _, way := range []int{1, -1} {
			var want []api.Stamp
			for k := range many + 1 {
				want = append(want, fromTime(start.AddDate(0, 0, way*days*k)))
			}
			l, e := series.Tz(z, want[0], want[many], api.Span{D: int64(way * days)}, mostRows)
			if e != api.OK || !same(l, want) {
				t.Fatal("Tz", start, way, days, many, l, e)
			}
			for k := range want {
				want[k] = fromTime(start.Add(time.Duration(way*days*k) * time.Hour))
			}
			l, e = series.Tz(z, want[0], want[many], api.Span{U: int64(way*days) * hour}, mostRows)
			if e != api.OK || !same(l, want) {
				t.Fatal("Tz", start, way, days, many, l, e)
			}
		}
	}
}

// P21.2: where clocks are shifted, an interval may lead nowhere there alone.
func TestTzWhereClocksShift(t *testing.T) {
	z := berlin(t)
	utc := zone.UTC()
	// A day less 23 hours and a half: of the 31st of March, which has 23 hours, it leads back.
	step := api.Span{D: 1, U: -23*hour - hour/2}
	start := at(t, 2024, 3, 30, 11*hour)
	if l, e := series.Tz(z, start, at(t, 2024, 4, 30, 0), step, mostRows); e != api.ErrZero || l != nil {
		t.Error("Tz", l, e)
	}
	if l, e := series.Tz(utc, start, at(t, 2024, 4, 1, 0), step, mostRows); e != api.OK || len(l) != 75 {
		t.Error("Tz", len(l), e)
	}
	if l, e := series.Stamps(start, at(t, 2024, 4, 1, 0), step, mostRows); e != api.OK || len(l) != 75 {
		t.Error("Stamps", len(l), e)
	}
	// Days in Berlin keep their noon.
	l, e := series.Tz(z, start, at(t, 2024, 4, 1, 10*hour), api.Span{D: 1}, 3)
	if e != api.OK || !same(l, []api.Stamp{start, at(t, 2024, 3, 31, 10*hour), at(t, 2024, 4, 1, 10*hour)}) {
		t.Error("Tz", l, e)
	}
	// What clocks say at the edge of all can be no stamp, of an interval with days.
	far := comp.Table{First: api.Tran{Off: 57600}}
	if l, e := series.Tz(far, last(t), last(t), api.Span{D: -1}, 9); e != api.ErrRange || l != nil {
		t.Error("Tz", l, e)
	}
	if l, e := series.Tz(far, last(t), last(t), api.Span{U: -1}, 9); e != api.OK || len(l) != 1 {
		t.Error("Tz", l, e)
	}
}

// expected goes as P21.2 says, with a list of all that it comes by.
func expected(x asked) ([]api.Stamp, api.Errno) {
	way := span.Sign(x.step)
	if x.a.Inf != 0 || x.step.Inf != 0 {
		return nil, api.ErrRange
	}
	if way == 0 {
		return nil, api.ErrZero
	}
	all := []api.Stamp{x.a}
	for {
		n := len(all)
		if day.CmpStamp(all[n-1], x.b)*way > 0 {
			return all[:n-1], api.OK
		}
		if n > x.most {
			return nil, api.ErrRows
		}
		if n > 1 && day.CmpStamp(all[n-1], all[n-2])*way <= 0 {
			return nil, api.ErrZero
		}
		one, e := x.next(all[n-1])
		if e != api.OK {
			return nil, e
		}
		all = append(all, one)
	}
}

func anyStamp(r *rand.Rand, t *testing.T) api.Stamp {
	switch r.Intn(12) {
	case 0:
		return api.Stamp{Inf: 1}
	case 1:
		return api.Stamp{Inf: -1}
	case 2:
		return api.Stamp{U: last(t).U - r.Int63n(40*dayMicro)}
	case 3:
		return api.Stamp{U: first(t).U + r.Int63n(40*dayMicro)}
	}
	return api.Stamp{U: at(t, 2020, 1, 1, 0).U + r.Int63n(3000)*dayMicro + r.Int63n(24)*hour}
}

func anySpan(r *rand.Rand) api.Span {
	switch r.Intn(12) {
	case 0:
		return api.Span{Inf: 1 - 2*r.Intn(2)}
	case 1:
		return api.Span{M: r.Int63n(5) - 2, D: 29 + r.Int63n(3), U: (r.Int63n(3) - 1) * hour}
	case 2:
		return api.Span{M: 1 - 2*r.Int63n(2), D: r.Int63n(63) - 31}
	case 3:
		return api.Span{D: r.Int63n(3) - 1, U: (r.Int63n(5) - 2) * dayMicro}
	case 4:
		return api.Span{D: 1 - 2*r.Int63n(2), U: (r.Int63n(49) - 24) * hour}
	}
	return api.Span{M: r.Int63n(7) - 3, D: r.Int63n(41) - 20, U: r.Int63n(2*dayMicro) - dayMicro}
}

// P21.2 to P21.4, P5: they lie between both ends, rise or fall, begin with the
// first one, and none is left out.
func TestSeriesFollow(t *testing.T) {
	r := rand.New(rand.NewSource(213))
	z, utc := berlin(t), zone.UTC()
	seen := map[api.Errno]int{}
	for range 30000 {
		x := asked{[]*comp.Table{nil, &z, &utc}[r.Intn(3)], anyStamp(r, t), anyStamp(r, t), anySpan(r), r.Intn(60)}
		if r.Intn(3) > 0 && x.a.Inf == 0 {
			// An end that is not far away.
			if b := (api.Stamp{U: x.a.U + int64(span.Sign(x.step))*r.Int63n(200*dayMicro)}); day.RightStamp(b) {
				x.b = b
			}
		}
		l, e := x.answer()
		want, we := expected(x)
		if e != we || !same(l, want) || e != api.OK && l != nil {
			t.Fatal("series", x, l, e, want, we)
		}
		seen[e]++
		if e == api.OK {
			checkOrder(t, x, l)
		}
	}
	for _, e := range []api.Errno{api.OK, api.ErrRange, api.ErrZero, api.ErrRows} {
		if seen[e] < 100 {
			t.Error("too few of", e, seen)
		}
	}
}

func checkOrder(t *testing.T, x asked, l []api.Stamp) {
	t.Helper()
	way := span.Sign(x.step)
	if (len(l) == 0) != (day.CmpStamp(x.a, x.b) == way) {
		t.Fatal("none, or some", x, l)
	}
	for i, s := range l {
		if i == 0 && s != x.a || i > 0 && day.CmpStamp(s, l[i-1]) != way || day.CmpStamp(s, x.b) == way {
			t.Fatal("not in order", x, l)
		}
	}
	if n := len(l); n > 0 {
		if one, e := x.next(l[n-1]); e != api.OK || day.CmpStamp(one, x.b) != way {
			t.Fatal("one is left out", x, l, one, e)
		}
	}
}

// P21.5: without months, and by UTC, the k-th one is a and k times the step.
func TestTimesTheStep(t *testing.T) {
	r := rand.New(rand.NewSource(215))
	utc := zone.UTC()
	for range 2000 {
		a := at(t, 1900+r.Int63n(300), 1+r.Int63n(12), 1+r.Int63n(28), r.Int63n(dayMicro))
		step := api.Span{D: r.Int63n(9) - 4, U: r.Int63n(6*dayMicro) - 3*dayMicro}
		length := step.D*dayMicro + step.U
		many := r.Int63n(100)
		if length == 0 {
			continue
		}
		b := api.Stamp{U: a.U + length*many}
		for _, z := range []*comp.Table{nil, &utc} {
			l, e := asked{z, a, b, step, mostRows}.answer()
			if e != api.OK || len(l) != int(many+1) {
				t.Fatal("series", a, b, step, many, len(l), e)
			}
			for k, s := range l {
				if s != (api.Stamp{U: a.U + int64(k)*length}) {
					t.Fatal("series", a, b, step, k, s)
				}
			}
		}
	}
}

// As many as may be, and one more.
func TestMostRows(t *testing.T) {
	a := at(t, 2024, 1, 1, 0)
	z := berlin(t)
	for _, many := range []int64{1, 2, 999, mostRows} {
		b := api.Stamp{U: a.U + (many-1)*hour}
		for _, table := range []*comp.Table{nil, &z} {
			if l, e := (asked{table, a, b, api.Span{U: hour}, int(many)}).answer(); e != api.OK || len(l) != int(many) {
				t.Error("series", many, len(l), e)
			}
			if l, e := (asked{table, a, b, api.Span{U: hour}, int(many - 1)}).answer(); e != api.ErrRows || l != nil {
				t.Error("series", many, len(l), e)
			}
		}
	}
}

// Rules 4 and 5: tables stay as they are, and answers are memory of their own.
func TestAnswersAreNew(t *testing.T) {
	z := berlin(t)
	a, b := at(t, 2024, 1, 1, 0), at(t, 2024, 2, 1, 0)
	for range 2 {
		l, e := series.Tz(z, a, b, api.Span{D: 1}, 99)
		m, _ := series.Tz(z, a, b, api.Span{D: 1}, 99)
		if e != api.OK || !same(l, m) || len(l) != 32 {
			t.Fatal("Tz", l, m, e)
		}
		for i := range l {
			l[i] = api.Stamp{}
		}
		_ = append(l[:1], l...)
		if !same(m[:2], []api.Stamp{a, at(t, 2024, 1, 2, 0)}) {
			t.Fatal("an answer changed", m)
		}
	}
	if !reflect.DeepEqual(z, berlin(t)) {
		t.Error("the table changed")
	}
	x, _ := series.Ints(1, 9, 1, 9)
	x[0] = 7
	if y, _ := series.Ints(1, 9, 1, 9); y[0] != 1 {
		t.Error("an answer changed", y)
	}
}
