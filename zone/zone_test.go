package zone_test

import (
	"math"
	"math/rand"
	"reflect"
	"slices"
	"strconv"
	"strings"
	"testing"
	"time"
	_ "time/tzdata"

	"computus/api"
	"computus/comp"
	"computus/foot"
	"computus/src"
	"computus/when"
	"computus/zone"
)

const (
	firstYear = -4718
	lastYear  = 294282
	widest    = 57600
)

// example is the document's own source.
const example = "Rule EU 1977 1980 - Apr Sun>=1 1:00u 1:00 S\n" +
	"Rule EU 1981 max - Mar lastSun 1:00u 1:00 S\n" +
	"Rule EU 1996 max - Oct lastSun 1:00u 0:00 -\n" +
	"Zone Europe/Berlin 0:53:28 - LMT 1893 Apr 1 0:00\n" +
	"1:00 EU CE%sT\n" +
	"Link Europe/Berlin Berlin\n"

// sourceOf is a source that must be right.
func sourceOf(t *testing.T, s string) src.DB {
	t.Helper()
	db, line, e := src.Parse(s)
	if e != api.OK {
		t.Fatalf("Parse(%q) is %d, %d", s, line, e)
	}
	return db
}

// compile is the table of the first zone of a source, which can be made.
func compile(t *testing.T, s string) comp.Table {
	t.Helper()
	db := sourceOf(t, s)
	x, e := comp.Compile(db, db.Zones[0])
	if e != api.OK {
		t.Fatalf("Compile of %q is %d", s, e)
	}
	return x
}

// utc is the instant of a time in UTC.
func utc(y int, m time.Month, d, h, min, s int) int64 {
	return time.Date(y, m, d, h, min, s, 0, time.UTC).Unix()
}

func firstAsked() int64 { return utc(firstYear+4, 1, 1, 0, 0, 0) }
func lastAsked() int64  { return utc(lastYear-4, 12, 31, 23, 59, 59) }

func yearOf(at int64) int64 { return int64(time.Unix(at, 0).UTC().Year()) }

// changesOf is all changes of a table in a range of years, and First ahead of them.
func changesOf(t *testing.T, x comp.Table, from, to int64) []api.Tran {
	t.Helper()
	l := append([]api.Tran{x.First}, x.Trans...)
	if !x.Foot.Has {
		return l
	}
	for y := max(from, yearOf(x.Foot.From)-1); y <= to; y++ {
		both, e := foot.Year(x.Foot, y)
		if e != api.OK {
			t.Fatal("Year", y, e)
		}
		for _, s := range both {
			if s.At >= x.Foot.From {
				l = append(l, s)
			}
		}
	}
	return l
}

// around is all changes of a table near an instant, and First ahead of them.
func around(t *testing.T, x comp.Table, at int64) []api.Tran {
	t.Helper()
	return changesOf(t, x, yearOf(at)-2, yearOf(at)+2)
}

// standing is the last one of all changes that is not behind an instant.
func standing(l []api.Tran, at int64) api.Tran {
	now := l[0]
	for _, s := range l[1:] {
		if s.At <= at {
			now = s
		}
	}
	return now
}

// heard is at which instants clocks say some seconds, second by second, and else the seconds less Off at the last instant at which they say less.
func heard(l []api.Tran, local int64) (int64, int) {
	var says []int64
	never := int64(0)
	i := 0
	for at := local - widest - 10; at <= local+widest+10; at++ {
		for i+1 < len(l) && l[i+1].At <= at {
			i++
		}
		switch said := at + l[i].Off; {
		case said == local:
			says = append(says, at)
		case said < local:
			never = local - l[i].Off
		}
	}
	switch len(says) {
	case 0:
		return never, zone.Never
	case 1:
		return says[0], zone.Once
	}
	return says[0], zone.Twice
}

func checkAt(t *testing.T, x comp.Table, at int64) {
	t.Helper()
	want := standing(around(t, x, at), at)
	if got, e := zone.At(x, at); got != want || e != api.OK {
		t.Fatalf("At(%v, %d) is %v, %d, not %v", x, at, got, e, want)
	}
}

func checkChanges(t *testing.T, x comp.Table, from, to int64) {
	t.Helper()
	var want []int64
	for _, s := range around(t, x, from)[1:] {
		if s.At > from && s.At <= to {
			want = append(want, s.At)
		}
	}
	if got, e := zone.Changes(x, from, to); !slices.Equal(got, want) || e != api.OK {
		t.Fatalf("Changes(%v, %d, %d) is %v, %d, not %v", x, from, to, got, e, want)
	}
}

func checkInstant(t *testing.T, x comp.Table, local int64) int {
	t.Helper()
	want, often := heard(around(t, x, local), local)
	got, how, e := zone.Instant(x, local)
	if got != want || how != often || e != api.OK {
		t.Fatalf("Instant(%v, %d) is %d, %d, %d, not %d, %d", x, local, got, how, e, want, often)
	}
	checkBack(t, x, local)
	return how
}

// checkBack: P12.5, of some seconds.
func checkBack(t *testing.T, x comp.Table, local int64) {
	t.Helper()
	at, how, e := zone.Instant(x, local)
	s, e2 := zone.At(x, at)
	if e != api.OK || e2 != api.OK {
		t.Fatal("Instant", local, "is", e, "and At", e2)
	}
	if said := at + s.Off; how == zone.Never && said <= local || how != zone.Never && said != local {
		t.Fatal("clocks say", said, "at Instant of", local, how, x)
	}
}

// checkThere: P12.5, of an instant.
func checkThere(t *testing.T, x comp.Table, at int64) {
	t.Helper()
	s, e := zone.At(x, at)
	if e != api.OK {
		t.Fatal("At", at, "is", e)
	}
	got, how, e := zone.Instant(x, at+s.Off)
	if e != api.OK || how == zone.Never || got > at || how == zone.Once && got != at {
		t.Fatal("Instant of what clocks say at", at, "is", got, how, e, x)
	}
}

// checkBetween: P12.6, from an instant on.
func checkBetween(t *testing.T, x comp.Table, from, to int64) {
	t.Helper()
	l, e := zone.Changes(x, from, to)
	if e != api.OK {
		t.Fatal("Changes", from, to, "is", e)
	}
	begin := from
	for _, end := range append(l, to+1) {
		first, _ := zone.At(x, begin)
		for _, at := range []int64{begin, end - 1, begin + (end-begin)/2} {
			if s, e := zone.At(x, at); s != first || e != api.OK {
				t.Fatal("At", at, "is", s, e, "not", first)
			}
		}
		begin = end
	}
}

// refused checks that all calls tell an error, with nothing beside it.
func refused(t *testing.T, x comp.Table, at int64, want api.Errno) {
	t.Helper()
	if s, e := zone.At(x, at); e != want || s != (api.Tran{}) {
		t.Errorf("At(%v, %d) is %v, %d, not %d", x, at, s, e, want)
	}
	if l, e := zone.Changes(x, at, at); e != want || len(l) != 0 {
		t.Errorf("Changes(%v, %d) is %v, %d, not %d", x, at, l, e, want)
	}
	if got, how, e := zone.Instant(x, at); e != want || got != 0 || how != 0 {
		t.Errorf("Instant(%v, %d) is %d, %d, %d, not %d", x, at, got, how, e, want)
	}
}

// The document's examples.
func TestExample(t *testing.T) {
	x := compile(t, example)
	if !zone.Right(x) {
		t.Fatal("the table can not be", x)
	}
	local := utc(2024, 3, 31, 2, 30, 0)
	at, how, e := zone.Instant(x, local)
	if at != local-3600 || how != zone.Never || e != api.OK {
		t.Error("Instant is", at, how, e)
	}
	if s, e := zone.At(x, at); at+s.Off != utc(2024, 3, 31, 3, 30, 0) || e != api.OK {
		t.Error("At is", s, e)
	}
	local = utc(2024, 10, 27, 2, 30, 0)
	at, how, e = zone.Instant(x, local)
	if at != local-7200 || how != zone.Twice || e != api.OK {
		t.Error("Instant is", at, how, e)
	}
	if s, e := zone.At(x, at); s.Abbr != "CEST" || e != api.OK {
		t.Error("At is", s, e)
	}
	for at, want := range map[int64]api.Tran{
		-1 << 36:                     {Off: 3208, Abbr: "LMT"},
		-2422054409:                  {Off: 3208, Abbr: "LMT"},
		-2422054408:                  {At: -2422054408, Off: 3600, Abbr: "CET"},
		0:                            {At: -2422054408, Off: 3600, Abbr: "CET"},
		utc(1990, 1, 1, 0, 0, 0):     {At: utc(1977, 4, 3, 1, 0, 0), Off: 7200, Dst: true, Abbr: "CEST"},
		utc(1999, 3, 28, 0, 59, 59):  {At: utc(1998, 10, 25, 1, 0, 0), Off: 3600, Abbr: "CET"},
		utc(1999, 3, 28, 1, 0, 0):    {At: utc(1999, 3, 28, 1, 0, 0), Off: 7200, Dst: true, Abbr: "CEST"},
		1711846799:                   {At: utc(2023, 10, 29, 1, 0, 0), Off: 3600, Abbr: "CET"},
		1711846800:                   {At: 1711846800, Off: 7200, Dst: true, Abbr: "CEST"},
		utc(12024, 12, 1, 0, 0, 0):   {At: utc(12024, 10, 27, 1, 0, 0), Off: 3600, Abbr: "CET"},
		utc(200024, 7, 31, 0, 0, 59): {At: utc(200024, 3, 31, 1, 0, 0), Off: 7200, Dst: true, Abbr: "CEST"},
	} {
		if s, e := zone.At(x, at); s != want || e != api.OK {
			t.Error("At", at, "is", s, e, "not", want)
		}
	}
}

// P12.1: UTC, and that each answer is a table of its own.
func TestUTC(t *testing.T) {
	want := comp.Table{Name: "UTC", First: api.Tran{Abbr: "UTC"}}
	x := zone.UTC()
	if !sameTable(x, want) || !zone.Right(x) {
		t.Error("UTC is", x)
	}
	x.Trans = append(x.Trans, api.Tran{At: 5})
	x.Name = "X"
	if !sameTable(zone.UTC(), want) {
		t.Error("UTC is", zone.UTC())
	}
	for _, at := range []int64{firstAsked(), -1, 0, 1, lastAsked()} {
		if s, e := zone.At(zone.UTC(), at); s != want.First || e != api.OK {
			t.Error("At", at, "is", s, e)
		}
	}
	for _, local := range []int64{firstAsked() + widest, 0, lastAsked() - widest} {
		if at, how, e := zone.Instant(zone.UTC(), local); at != local || how != zone.Once || e != api.OK {
			t.Error("Instant", local, "is", at, how, e)
		}
	}
	if l, e := zone.Changes(zone.UTC(), -5, 1<<22-5); len(l) != 0 || e != api.OK {
		t.Error("Changes is", l, e)
	}
	if zone.Once != 0 || zone.Twice != 1 || zone.Never != 2 {
		t.Error("Once, Twice, Never are", zone.Once, zone.Twice, zone.Never)
	}
}

func sameTable(a, b comp.Table) bool {
	return a.Name == b.Name && a.First == b.First && slices.Equal(a.Trans, b.Trans) && a.Foot == b.Foot
}

// handmade is a table that can be, with two changes and a foot.
func handmade() comp.Table {
	on, at := when.On{Kind: 1}, when.At{Sec: 3600, Kind: 'u'}
	return comp.Table{Name: "X", First: api.Tran{Off: 100, Abbr: "A"},
		Trans: []api.Tran{{At: -1000000, Off: 200, Abbr: "B"}, {At: 1000000, Off: 300, Dst: true, Abbr: "C"}},
		Foot: comp.Foot{Has: true, From: utc(2000, 3, 26, 1, 0, 0), Off: 3600,
			A: comp.Half{Month: 3, On: on, At: at, Save: 3600, Abbr: "S"},
			B: comp.Half{Month: 10, On: on, At: at, Abbr: "W"}}}
}

// far is as many changes as there may be, and more of them.
func far(n int) []api.Tran {
	l := make([]api.Tran, n)
	for i := range l {
		l[i] = api.Tran{At: int64(i), Off: int64(i % 100)}
	}
	return l
}

// P12.1: tables that can be, at each bound.
func TestRight(t *testing.T) {
	for i, change := range []func(x *comp.Table){
		func(x *comp.Table) {},
		func(x *comp.Table) { *x = comp.Table{} },
		func(x *comp.Table) { x.Name = strings.Repeat("\xff", 1000) },
		func(x *comp.Table) { x.First = api.Tran{Off: widest, Dst: true} },
		func(x *comp.Table) { x.First.Off = -widest },
		func(x *comp.Table) { x.First.Abbr = strings.Repeat("x", 1000) },
		func(x *comp.Table) { x.Trans = nil },
		func(x *comp.Table) { x.Trans = []api.Tran{} },
		func(x *comp.Table) { x.Trans[0].Off, x.Trans[1].Off = widest, -widest },
		func(x *comp.Table) { x.Trans[0].At = -1 << 50 },
		func(x *comp.Table) { x.Trans[0].At = 999999 },
		func(x *comp.Table) { x.Trans[1].At, x.Foot = 1<<50, comp.Foot{} },
		func(x *comp.Table) { x.Trans[1].At = x.Foot.From - 1 },
		func(x *comp.Table) { x.Trans = far(4095) },
		func(x *comp.Table) { x.Trans = far(4096) },
		func(x *comp.Table) { x.Trans[1] = api.Tran{At: 1000000, Off: 200, Abbr: "B"} },
		func(x *comp.Table) { x.Foot = comp.Foot{} },
		func(x *comp.Table) { x.Foot.From = utc(2000, 10, 29, 1, 0, 0) },
		func(x *comp.Table) { x.Foot.From = utc(2110, 3, 30, 1, 0, 0) },
		func(x *comp.Table) { x.Foot.From = utc(2110, 10, 26, 1, 0, 0) },
		func(x *comp.Table) { x.Foot.From, x.Trans = utc(1800, 3, 30, 1, 0, 0), nil },
		func(x *comp.Table) { x.Foot.From, x.Trans = utc(1800, 10, 26, 1, 0, 0), x.Trans[:0] },
		func(x *comp.Table) {
			// The shift of 1801 is in 1800 yet.
			x.Trans, x.Foot.A = nil, comp.Half{Month: 1, On: when.On{Kind: 3, N: 1}, At: when.At{Kind: 'u'}}
			x.Foot.From = utc(1800, 12, 28, 0, 0, 0)
		},
		func(x *comp.Table) {
			// That of 2109 is in 2110.
			x.Foot.B = comp.Half{Month: 12, On: when.On{N: 31}, At: when.At{Sec: 86400, Kind: 'u'}}
			x.Foot.From = utc(2110, 1, 1, 0, 0, 0)
		},
	} {
		x := handmade()
		change(&x)
		if !zone.Right(x) {
			t.Error("Right is false of", i, x)
		}
		if s, e := zone.At(x, 0); e != api.OK || s != standing(around(t, x, 0), 0) {
			t.Error("At is", s, e, "of", i)
		}
	}
}

// P12.1 to P12.4: tables that can not be, which is told ahead of what is out of range.
func TestWrong(t *testing.T) {
	for i, change := range []func(x *comp.Table){
		func(x *comp.Table) { x.First.At = 1 },
		func(x *comp.Table) { x.First.At = -1 },
		func(x *comp.Table) { x.First.Off = widest + 1 },
		func(x *comp.Table) { x.First.Off = -widest - 1 },
		func(x *comp.Table) { x.First.Off = math.MinInt64 },
		func(x *comp.Table) { x.First.Off = math.MaxInt64 },
		func(x *comp.Table) { x.Trans[0].Off = widest + 1 },
		func(x *comp.Table) { x.Trans[0].Off = -widest - 1 },
		func(x *comp.Table) { x.Trans[1].Off = widest + 1 },
		func(x *comp.Table) { x.Trans[1].Off = -widest - 1 },
		func(x *comp.Table) { x.Trans[1].Off = math.MinInt64 },
		func(x *comp.Table) { x.Trans[0].At = -1<<50 - 1 },
		func(x *comp.Table) { x.Trans[0].At = math.MinInt64 },
		func(x *comp.Table) { x.Trans[1].At, x.Foot = 1<<50+1, comp.Foot{} },
		func(x *comp.Table) { x.Trans[1].At, x.Foot = math.MaxInt64, comp.Foot{} },
		func(x *comp.Table) { x.Trans[0].At = 1000000 },
		func(x *comp.Table) { x.Trans[0].At = 1000001 },
		func(x *comp.Table) { x.Trans[0], x.Trans[1] = x.Trans[1], x.Trans[0] },
		func(x *comp.Table) { x.Trans = far(4097) },
		func(x *comp.Table) { x.Trans[1].At = x.Foot.From },
		func(x *comp.Table) { x.Trans[1].At = x.Foot.From + 1 },
		func(x *comp.Table) { x.Trans = x.Trans[1:]; x.Trans[0].At = x.Foot.From },
		func(x *comp.Table) { x.Foot.Has = false },
		func(x *comp.Table) { x.Foot = comp.Foot{From: 1} },
		func(x *comp.Table) { x.Foot = comp.Foot{Off: 1} },
		func(x *comp.Table) { x.Foot = comp.Foot{A: comp.Half{Abbr: "X"}} },
		func(x *comp.Table) { x.Foot = comp.Foot{B: comp.Half{At: when.At{Kind: 'w'}}} },
		func(x *comp.Table) { x.Foot = comp.Foot{Has: true} },
		func(x *comp.Table) { x.Foot.A.Month = 11 },
		func(x *comp.Table) { x.Foot.A.Save = 7201 },
		func(x *comp.Table) { x.Foot.B.Save = -1 },
		func(x *comp.Table) { x.Foot.B.On.N = 1 },
		func(x *comp.Table) { x.Foot.B.At.Kind = 'z' },
		func(x *comp.Table) { x.Foot.Off = 50401 },
		func(x *comp.Table) { x.Foot.From++ },
		func(x *comp.Table) { x.Foot.From-- },
		func(x *comp.Table) { x.Foot.From = 0 },
		func(x *comp.Table) { x.Foot.From = utc(2111, 3, 29, 1, 0, 0) },
		func(x *comp.Table) { x.Foot.From, x.Trans = utc(1799, 10, 27, 1, 0, 0), nil },
		func(x *comp.Table) { x.Foot.From = math.MinInt64; x.Trans = nil },
		func(x *comp.Table) { x.Foot.From = math.MaxInt64 },
		func(x *comp.Table) {
			// The shift of 2110 is in 2111.
			x.Foot.B = comp.Half{Month: 12, On: when.On{N: 31}, At: when.At{Sec: 86400, Kind: 'u'}}
			x.Foot.From = utc(2111, 1, 1, 0, 0, 0)
		},
		func(x *comp.Table) {
			// The shift of 1800 is in 1799 yet.
			x.Trans, x.Foot.A = nil, comp.Half{Month: 1, On: when.On{Kind: 3, N: 1}, At: when.At{Kind: 'u'}}
			x.Foot.From = utc(1799, 12, 29, 0, 0, 0)
		},
	} {
		x := handmade()
		change(&x)
		if zone.Right(x) {
			t.Error("Right is true of", i, x)
		}
		for _, at := range []int64{0, math.MinInt64, math.MaxInt64} {
			refused(t, x, at, api.ErrArg)
		}
		if l, e := zone.Changes(x, 0, math.MaxInt64); e != api.ErrArg || len(l) != 0 {
			t.Error("Changes is", l, e, "of", i)
		}
	}
}

// P12.2, P12.3, P12.4: instants that are asked, at both ends.
func TestRange(t *testing.T) {
	first, last := firstAsked(), lastAsked()
	for _, x := range []comp.Table{handmade(), zone.UTC(), compile(t, example)} {
		for _, at := range []int64{first, first + 1, last - 1, last} {
			checkAt(t, x, at)
			checkChanges(t, x, at, at)
		}
		checkChanges(t, x, first, first+1<<22)
		checkChanges(t, x, last-1<<22, last)
		for _, at := range []int64{first + widest, first + widest + 1, last - widest - 1, last - widest} {
			checkInstant(t, x, at)
		}
		for _, at := range []int64{first - 1, last + 1, math.MinInt64, math.MinInt64 + 1, math.MaxInt64 - 1, math.MaxInt64} {
			refused(t, x, at, api.ErrRange)
			if l, e := zone.Changes(x, at, 0); e != api.ErrRange || len(l) != 0 {
				t.Error("Changes from", at, "is", l, e)
			}
			if l, e := zone.Changes(x, 0, at); e != api.ErrRange || len(l) != 0 {
				t.Error("Changes to", at, "is", l, e)
			}
		}
		for _, local := range []int64{first, first + widest - 1, last, last - widest + 1, math.MinInt64 + widest, math.MaxInt64 - widest} {
			if at, how, e := zone.Instant(x, local); e != api.ErrRange || at != 0 || how != 0 {
				t.Error("Instant", local, "is", at, how, e)
			}
		}
	}
}

// P12.3: how much may be asked at once, and what from and to are.
func TestChanges(t *testing.T) {
	x := handmade()
	spring := x.Foot.From
	autumn := utc(2000, 10, 29, 1, 0, 0)
	for _, c := range []struct {
		from, to int64
		want     []int64
		e        api.Errno
	}{
		{0, 1 << 22, []int64{1000000}, api.OK},
		{0, 1<<22 + 1, nil, api.ErrRange},
		{5, 1<<22 + 5, []int64{1000000}, api.OK},
		{-1 << 22, 1, nil, api.ErrRange},
		{-1 << 22, 0, []int64{-1000000}, api.OK},
		{-1000001, 1000000, []int64{-1000000, 1000000}, api.OK},
		{-1000001, 999999, []int64{-1000000}, api.OK},
		{-1000000, 1000000, []int64{1000000}, api.OK},
		{-1000000, 999999, nil, api.OK},
		{1000000, 1000000, nil, api.OK},
		{2000000, -2000000, nil, api.OK},
		{1 << 40, 0, nil, api.OK},
		{0, 1 << 40, nil, api.ErrRange},
		{spring - 1, spring, []int64{spring}, api.OK},
		{spring, spring + 1, nil, api.OK},
		{spring - 1, spring - 1, nil, api.OK},
		{spring - 2, spring - 1, nil, api.OK},
		{spring + 1, spring - 1, nil, api.OK},
		{autumn - 1, autumn, []int64{autumn}, api.OK},
		{autumn - 100, autumn + 1<<21, []int64{autumn}, api.OK},
		{autumn, autumn + 1<<22, nil, api.OK},
		// Ahead of From the foot's shifts are none.
		{utc(1999, 10, 31, 1, 0, 0) - 1, utc(1999, 10, 31, 1, 0, 0) + 1, nil, api.OK},
		{utc(1999, 3, 28, 1, 0, 0) - 1, utc(1999, 3, 28, 1, 0, 0) + 1, nil, api.OK},
	} {
		if l, e := zone.Changes(x, c.from, c.to); !slices.Equal(l, c.want) || e != c.e {
			t.Error("Changes", c.from, c.to, "is", l, e, "not", c.want, c.e)
		}
	}
	// A change of which clocks take no notice is one, too.
	x.Trans[1].Off, x.Trans[1].Dst, x.Trans[1].Abbr = 200, false, "B"
	if l, e := zone.Changes(x, 0, 1<<22); !slices.Equal(l, []int64{1000000}) || e != api.OK {
		t.Error("Changes is", l, e)
	}
	x = comp.Table{Trans: far(4096)}
	if l, e := zone.Changes(x, -1, 1<<22-1); len(l) != 4096 || l[0] != 0 || l[4095] != 4095 || e != api.OK {
		t.Error("Changes is", len(l), e)
	}
	// Two shifts of a foot, which are of two years.
	x = handmade()
	x.Trans = nil
	x.Foot.A.Month, x.Foot.A.On = 12, when.On{Kind: 2, Wd: 0, N: 31}
	x.Foot.B.Month, x.Foot.B.On = 2, when.On{Kind: 3, Wd: 6, N: 1}
	x.Foot.From = utc(2000, 1, 29, 1, 0, 0)
	both := []int64{utc(2000, 12, 31, 1, 0, 0), utc(2001, 1, 27, 1, 0, 0)}
	if l, e := zone.Changes(x, both[0]-1, both[0]-1+1<<22); !slices.Equal(l, both) || e != api.OK {
		t.Error("Changes is", l, e, "not", both)
	}
}

// P12.4: how clocks that go on and back say something, by hand.
func TestInstant(t *testing.T) {
	table := func(first int64, l ...int64) comp.Table {
		x := comp.Table{First: api.Tran{Off: first}}
		for i := 0; i < len(l); i += 2 {
			x.Trans = append(x.Trans, api.Tran{At: l[i], Off: l[i+1]})
		}
		return x
	}
	for _, c := range []struct {
		x         comp.Table
		local, at int64
		how       int
	}{
		// On by 10 seconds.
		{table(0, 100, 10), 99, 99, zone.Once},
		{table(0, 100, 10), 100, 100, zone.Never},
		{table(0, 100, 10), 109, 109, zone.Never},
		{table(0, 100, 10), 110, 100, zone.Once},
		// Back by 10 seconds.
		{table(0, 100, -10), 89, 89, zone.Once},
		{table(0, 100, -10), 90, 90, zone.Twice},
		{table(0, 100, -10), 99, 99, zone.Twice},
		{table(0, 100, -10), 100, 110, zone.Once},
		// Back by 10 twice, one second later: three times.
		{table(0, 100, -10, 101, -20), 85, 85, zone.Twice},
		{table(0, 100, -10, 101, -20), 90, 90, zone.Twice},
		{table(0, 100, -10, 101, -20), 100, 120, zone.Once},
		// On by 10, and back again 5 seconds later: 110 to 114 first, then again.
		{table(0, 100, 10, 105, 0), 104, 104, zone.Never},
		{table(0, 100, 10, 105, 0), 105, 105, zone.Once},
		{table(0, 100, 10, 105, 0), 109, 109, zone.Once},
		{table(0, 100, 10, 105, 0), 110, 100, zone.Twice},
		{table(0, 100, 10, 105, 0), 114, 104, zone.Twice},
		{table(0, 100, 10, 105, 0), 115, 115, zone.Once},
		// On by 10, then by 20 more: the last one that says less is the second.
		{table(0, 100, 10, 105, 30), 112, 102, zone.Once},
		{table(0, 100, 10, 105, 30), 103, 103, zone.Never},
		{table(0, 100, 10, 105, 30), 120, 110, zone.Never},
		// By as much as may be.
		{table(widest, 0, -widest), widest, widest + widest, zone.Once},
		{table(widest, 0, -widest), -widest, -2 * widest, zone.Twice},
		{table(widest, 0, -widest), widest - 1, -1, zone.Twice},
		{table(-widest, 0, widest), -widest, widest - widest, zone.Never},
		{table(-widest, 0, widest), -widest - 1, -1, zone.Once},
		{table(-widest, 0, widest), widest - 1, widest + widest - 1, zone.Never},
		{table(-widest, 0, widest), widest, 0, zone.Once},
		// A change of nothing.
		{table(5, 100, 5), 105, 100, zone.Once},
		{table(5, 100, 5), 104, 99, zone.Once},
	} {
		at, how, e := zone.Instant(c.x, c.local)
		if at != c.at || how != c.how || e != api.OK {
			t.Error("Instant of", c.local, "in", c.x, "is", at, how, e, "not", c.at, c.how)
		}
		checkInstant(t, c.x, c.local)
	}
}

// world is a source of zones that package time knows too, from a year on.
const world = "Rule EU 1979 1995 - Sep lastSun 1:00u 0 -\n" +
	"Rule EU 1980 only - Apr Sun>=1 1:00u 1:00 S\n" +
	"Rule EU 1981 max - Mar lastSun 1:00u 1:00 S\n" +
	"Rule EU 1996 max - Oct lastSun 1:00u 0 -\n" +
	"Rule US 1967 2006 - Oct lastSun 2:00 0 S\n" +
	"Rule US 1987 2006 - Apr Sun>=1 2:00 1:00 D\n" +
	"Rule US 2007 max - Mar Sun>=8 2:00 1:00 D\n" +
	"Rule US 2007 max - Nov Sun>=1 2:00 0 S\n" +
	"Rule AN 2001 2007 - Oct lastSun 2:00s 1:00 D\n" +
	"Rule AN 2001 2005 - Mar lastSun 2:00s 0 S\n" +
	"Rule AN 2006 only - Apr Sun>=1 2:00s 0 S\n" +
	"Rule AN 2007 only - Mar lastSun 2:00s 0 S\n" +
	"Rule AN 2008 max - Apr Sun>=1 2:00s 0 S\n" +
	"Rule AN 2008 max - Oct Sun>=1 2:00s 1:00 D\n" +
	"Zone Europe/Berlin 1:00 EU CE%sT\n" +
	"Zone America/New_York -5:00 US E%sT\n" +
	"Zone Australia/Sydney 10:00 AN AE%sT\n" +
	"Zone Asia/Kolkata 5:30 - IST\n"

// P12.2 to P12.4: zones of the world, against package time.
func TestWorld(t *testing.T) {
	db := sourceOf(t, world)
	r := rand.New(rand.NewSource(12))
	from := map[string]int{"Europe/Berlin": 1981, "America/New_York": 1988, "Australia/Sydney": 2003, "Asia/Kolkata": 1970}
	for _, z := range db.Zones {
		loc, err := time.LoadLocation(z.Name)
		if err != nil {
			t.Fatal(err)
		}
		x, e := comp.Compile(db, z)
		if e != api.OK || !zone.Right(x) {
			t.Fatal("Compile", z.Name, e)
		}
		begin := utc(from[z.Name], 1, 1, 0, 0, 0)
		for range 2000 {
			at := begin + r.Int63n(utc(2500, 1, 1, 0, 0, 0)-begin)
			if l, e := zone.Changes(x, at, at+1<<22); e != api.OK {
				t.Fatal("Changes", e)
			} else if len(l) > 0 && r.Intn(2) == 0 {
				at = l[0] + r.Int63n(8000) - 4000
			}
			checkTime(t, x, loc, at)
			checkThere(t, x, at)
		}
	}
}

// checkTime holds what clocks say at an instant against package time.
func checkTime(t *testing.T, x comp.Table, loc *time.Location, at int64) {
	t.Helper()
	there := time.Unix(at, 0).In(loc)
	abbr, off := there.Zone()
	s, e := zone.At(x, at)
	if e != api.OK || s.Off != int64(off) || s.Abbr != abbr || s.Dst != there.IsDST() {
		t.Fatal("At is", s, e, "not", there)
	}
	// Far away package time has bounds at years' ends, too.
	if start, _ := there.ZoneBounds(); x.Foot.Has && at >= x.Foot.From && there.Year() < 2037 && s.At != start.Unix() {
		t.Fatal("At is", s, "not since", start)
	}
	// How often clocks say that, if they are an hour ahead, or back, or neither.
	count, first := 0, int64(0)
	for _, y := range []int64{at - 3600, at, at + 3600} {
		if _, o := time.Unix(y, 0).In(loc).Zone(); y+int64(o) == at+int64(off) {
			if count == 0 {
				first = y
			}
			count++
		}
	}
	got, how, e := zone.Instant(x, at+int64(off))
	if e != api.OK || got != first || how != count-1 {
		t.Fatal("Instant of", there, "is", got, how, e, "not", first, count-1)
	}
}

// anyTable is a table that can be: of few changes that are near to each other, or many, with a foot or without.
func anyTable(r *rand.Rand) comp.Table {
	var x comp.Table
	off := func() int64 {
		return []int64{0, 3600, widest, -widest, r.Int63n(2*widest+1) - widest, r.Int63n(7200)}[r.Intn(6)]
	}
	at := utc(1800, 1, 1, 0, 0, 0)
	if r.Intn(2) == 0 {
		at = utc(1999, 12, 1, 0, 0, 0)
	}
	wide := []int64{3, 3000, 40000, 10000000}[r.Intn(4)]
	x.First = api.Tran{Off: off(), Dst: r.Intn(2) == 0, Abbr: "F"}
	for i := range r.Intn([]int{1, 4, 20, 60}[r.Intn(4)]) {
		at += 1 + r.Int63n(wide)
		x.Trans = append(x.Trans, api.Tran{At: at, Off: off(), Dst: r.Intn(2) == 0, Abbr: strconv.Itoa(i)})
	}
	if r.Intn(3) == 0 {
		return x
	}
	x.Foot = anyFoot(r)
	next, _ := foot.Next(x.Foot, at)
	for range r.Intn(3) {
		next, _ = foot.Next(x.Foot, next.At)
	}
	x.Foot.From = next.At
	return x
}

func anyFoot(r *rand.Rand) comp.Foot {
	half := func(month int64) comp.Half {
		return comp.Half{Month: month, On: when.On{Kind: 2 + r.Intn(2), Wd: r.Int63n(7), N: r.Int63n(31) + 1},
			At: when.At{Sec: r.Int63n(86401), Kind: "wsu"[r.Intn(3)]}, Save: r.Int63n(7201) * r.Int63n(2), Abbr: "M" + strconv.Itoa(int(month))}
	}
	m := r.Int63n(12)
	return comp.Foot{Has: true, Off: r.Int63n(100801) - 50400, A: half(m + 1), B: half((m+2+r.Int63n(9))%12 + 1)}
}

// near is an instant near to a change of a table, or anywhere.
func near(t *testing.T, r *rand.Rand, x comp.Table) int64 {
	t.Helper()
	l := changesOf(t, x, 1790, 2030)[1:]
	if len(l) == 0 || r.Intn(8) == 0 {
		return firstAsked() + 2*widest + r.Int63n(lastAsked()-firstAsked()-1<<23)
	}
	at := l[r.Intn(len(l))].At
	return at + []int64{-1, 0, 1, r.Int63n(7200) - 3600, r.Int63n(4*widest) - 2*widest}[r.Intn(5)]
}

// P12.1 to P12.6: many tables.
func TestMany(t *testing.T) {
	r := rand.New(rand.NewSource(6))
	counts := map[int]int{}
	for range 700 {
		x := anyTable(r)
		if !zone.Right(x) {
			t.Fatal("Right is false of", x)
		}
		for range 6 {
			at := near(t, r, x)
			checkAt(t, x, at)
			checkThere(t, x, at)
			to := at + []int64{-5, 0, 1, 100, r.Int63n(1 << 20), 1 << 22}[r.Intn(6)]
			checkChanges(t, x, at, to)
			checkBetween(t, x, at, at+1<<22)
			local := at + []int64{-1, 0, r.Int63n(2*widest) - widest}[r.Intn(3)]
			counts[checkInstant(t, x, local)]++
			counts[checkInstant(t, x, at+x.First.Off)]++
		}
	}
	for _, how := range []int{zone.Once, zone.Twice, zone.Never} {
		if counts[how] < 200 {
			t.Error("too few of a kind", counts)
		}
	}
}

// anyOn is a day of a month.
func anyOn(r *rand.Rand) string {
	day := []string{"Sun", "Mon", "Tue", "Wed", "Thu", "Fri", "Sat"}[r.Intn(7)]
	n := strconv.Itoa(r.Intn(31) + 1)
	return []string{n, "last" + day, day + ">=" + n, day + "<=" + n}[r.Intn(4)]
}

func anyAtText(r *rand.Rand) string {
	return []string{"0", "1:00", "2:00", "24:00", "3:12:07"}[r.Intn(5)] + []string{"", "s", "u"}[r.Intn(3)]
}

func anyMonth(r *rand.Rand) string {
	return []string{"Jan", "Feb", "Mar", "Apr", "May", "Jun", "Jul", "Aug", "Sep", "Oct", "Nov", "Dec"}[r.Intn(12)]
}

// anySource is a source of one zone, whose last era's rules may go on for ever.
func anySource(r *rand.Rand) string {
	s := ""
	y := 1800 + r.Intn(250)
	for n := r.Intn(4); n >= 0 && y < 2100; n-- {
		to := min(2100, y+r.Intn(50))
		end := strconv.Itoa(to)
		if n == 0 && r.Intn(5) > 0 {
			end = "max"
		}
		on := "Rule R " + strconv.Itoa(y) + " " + end + " - "
		s += on + anyMonth(r) + " " + anyOn(r) + " " + anyAtText(r) + " " + []string{"1:00", "0:30", "2:00"}[r.Intn(3)] + " S\n"
		s += on + anyMonth(r) + " " + anyOn(r) + " " + anyAtText(r) + " " + []string{"0", "0:20"}[r.Intn(2)] + " " + []string{"-", "W"}[r.Intn(2)] + "\n"
		y = to + 1
	}
	s += "Zone Z "
	y = 1800 + r.Intn(150)
	for n := r.Intn(4); n >= 0; n-- {
		s += []string{"1", "0", "-3:30", "14", "-14", "5:53:28"}[r.Intn(6)]
		s += " " + []string{"-", "1:00", "R", "R", "R"}[r.Intn(5)] + " " + []string{"X", "L%sT", "%z", "G/H"}[r.Intn(4)]
		if n > 0 {
			y = min(2100, y+1+r.Intn(60))
			s += " " + strconv.Itoa(y) + " " + anyMonth(r) + " " + anyOn(r) + " " + anyAtText(r)
		}
		s += "\n"
	}
	return s
}

// P2: the table says what the rules say, at each instant that may be asked.
func TestSource(t *testing.T) {
	r := rand.New(rand.NewSource(2))
	feet, plain := 0, 0
	for range 4000 {
		db := sourceOf(t, anySource(r))
		x, e := comp.Compile(db, db.Zones[0])
		if e != api.OK {
			continue
		}
		if !zone.Right(x) {
			t.Fatal("the table of", src.Text(db), "can not be", x)
		}
		times := []int64{firstAsked(), -1, 0, lastAsked(), utc(2101, 1, 1, 0, 0, 0), utc(2111, 1, 1, 0, 0, 0), utc(2111, 1, 1, 0, 0, 0) - 1}
		if x.Foot.Has {
			feet++
			for _, at := range []int64{x.Foot.From, utc(2000+r.Intn(200), 1, 1, 0, 0, 0), r.Int63n(lastAsked())} {
				next, _ := foot.Next(x.Foot, at)
				times = append(times, at-1, at, next.At-1, next.At, next.At+1)
			}
		} else {
			plain++
		}
		if n := len(x.Trans); n > 0 {
			at := x.Trans[r.Intn(n)].At
			times = append(times, at-1, at, x.Trans[n-1].At, x.Trans[n-1].At-1)
		}
		for range 4 {
			times = append(times, firstAsked()+r.Int63n(lastAsked()-firstAsked()), utc(1790+r.Intn(330), 1, 1, 0, 0, 0)+r.Int63n(1<<25))
		}
		for _, at := range times {
			checkSource(t, db, x, at)
		}
	}
	if feet < 300 || plain < 300 {
		t.Error("too few tables of a kind", feet, plain)
	}
}

// P12.1: a source's table that has more changes than there may be can not be, as any other one.
func TestTooMany(t *testing.T) {
	for years, right := range map[int]bool{256: true, 257: false} {
		s := ""
		for i := range 16 {
			month := []string{"Jan", "Feb", "Mar", "Apr", "May", "Jun", "Jul", "Aug"}[i/2]
			s += "Rule R 1801 " + strconv.Itoa(1800+years) + " - " + month + " " + strconv.Itoa(i%2*10+5) + " 0u 0 L" + strconv.Itoa(i) + "\n"
		}
		// The first firing changes nothing, as its letters stand ahead of it, too; the end does.
		s += "Zone Z 1 - X 1801\n1 R %s\n"
		x := compile(t, s)
		if len(x.Trans) != 16*years {
			t.Fatal("the table has", len(x.Trans), "changes")
		}
		if zone.Right(x) != right {
			t.Error("Right is", !right, "of", len(x.Trans), "changes")
		}
	}
}

func checkSource(t *testing.T, db src.DB, x comp.Table, at int64) {
	t.Helper()
	want, e := comp.Direct(db, db.Zones[0], at)
	if e != api.OK {
		t.Fatal("Direct", e)
	}
	got, e := zone.At(x, at)
	since := got.At
	got.At = 0
	if got != want || e != api.OK || since > at && since != 0 {
		t.Fatalf("At of %q at %d is %v, %d, not %v", src.Text(db), at, got, e, want)
	}
	if s, _ := zone.At(x, max(since, firstAsked())); s.At != since && since != 0 {
		t.Fatalf("At of %q at %d is since %d", src.Text(db), at, since)
	}
}

// Rules 4 and 5: no table is changed; what is written into an answer is seen by no other one.
func TestOwnMemory(t *testing.T) {
	x := handmade()
	a, _ := zone.Changes(x, -1000001, 1000000)
	b, _ := zone.Changes(x, -1000001, 1000000)
	a[0], a[1] = 7, 7
	_ = append(a, 7)
	if c, _ := zone.Changes(x, -1000001, 1000000); !slices.Equal(b, []int64{-1000000, 1000000}) || !slices.Equal(c, b) {
		t.Error("answers share memory", b, c)
	}
	zone.Right(x)
	zone.At(x, 0)
	zone.Instant(x, 0)
	if !reflect.DeepEqual(x, handmade()) {
		t.Error("the table is changed", x)
	}
	// Of a table that was changed since, nothing is kept.
	x.Trans[0].Off = 900
	if s, e := zone.At(x, 0); s.Off != 900 || e != api.OK {
		t.Error("At is", s, e)
	}
}
