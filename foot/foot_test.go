package foot_test

import (
	"cmp"
	"math"
	"math/rand"
	"slices"
	"strconv"
	"testing"
	"time"
	_ "time/tzdata"

	"computus/api"
	"computus/comp"
	"computus/foot"
	"computus/when"
)

const (
	firstYear = -4718
	lastYear  = 294282
	cycle     = 146097 * 86400 // seconds of 400 years
)

// berlin is the foot of the document's example.
func berlin() comp.Foot {
	on, at := when.On{Kind: 1}, when.At{Sec: 3600, Kind: 'u'}
	return comp.Foot{Has: true, Off: 3600,
		A: comp.Half{Month: 3, On: on, At: at, Save: 3600, Abbr: "CEST"},
		B: comp.Half{Month: 10, On: on, At: at, Abbr: "CET"}}
}

func newYork() comp.Foot {
	at := when.At{Sec: 7200, Kind: 'w'}
	return comp.Foot{Has: true, Off: -5 * 3600,
		A: comp.Half{Month: 3, On: when.On{Kind: 2, N: 8}, At: at, Save: 3600, Abbr: "EDT"},
		B: comp.Half{Month: 11, On: when.On{Kind: 2, N: 1}, At: at, Abbr: "EST"}}
}

func sydney() comp.Foot {
	on, at := when.On{Kind: 2, N: 1}, when.At{Sec: 7200, Kind: 's'}
	return comp.Foot{Has: true, Off: 10 * 3600,
		A: comp.Half{Month: 4, On: on, At: at, Abbr: "AEST"},
		B: comp.Half{Month: 10, On: on, At: at, Save: 3600, Abbr: "AEDT"}}
}

// utc is the instant of a time in UTC.
func utc(y int, m time.Month, d, h, min, s int) int64 {
	return time.Date(y, m, d, h, min, s, 0, time.UTC).Unix()
}

// shift is that of a half in a year, as the chapter has it, by package time.
func shift(f comp.Foot, h, other comp.Half, y int64) api.Tran {
	first := time.Date(int(y), time.Month(h.Month), 1, 0, 0, 0, 0, time.UTC)
	day := first.AddDate(0, 0, int(h.On.N)-1)
	step := 0
	switch h.On.Kind {
	case 1:
		day, step = first.AddDate(0, 1, -1), -1
	case 2:
		step = 1
	case 3:
		step = -1
	}
	for step != 0 && day.Weekday() != time.Weekday(h.On.Wd) {
		day = day.AddDate(0, 0, step)
	}
	at := day.Unix() + h.At.Sec
	if h.At.Kind != 'u' {
		at -= f.Off
	}
	if h.At.Kind == 'w' {
		at -= other.Save
	}
	return api.Tran{At: at, Off: f.Off + h.Save, Dst: h.Save != 0, Abbr: h.Abbr}
}

// pair is both shifts of a year, in order.
func pair(f comp.Foot, y int64) []api.Tran {
	l := []api.Tran{shift(f, f.A, f.B, y), shift(f, f.B, f.A, y)}
	if l[0].At > l[1].At {
		slices.Reverse(l)
	}
	return l
}

// many is the shifts of the years around one, in order.
func many(f comp.Foot, y int64) []api.Tran {
	var l []api.Tran
	for z := y - 3; z <= y+3; z++ {
		l = append(l, pair(f, z)...)
	}
	slices.SortFunc(l, func(a, b api.Tran) int { return cmp.Compare(a.At, b.At) })
	return l
}

// around is the last one of some shifts that is not behind an instant, and the next one.
func around(l []api.Tran, at int64) (api.Tran, api.Tran) {
	i := slices.IndexFunc(l, func(s api.Tran) bool { return s.At > at })
	return l[i-1], l[i]
}

// checkAt holds At and Next of an instant against some shifts.
func checkAt(t *testing.T, f comp.Foot, l []api.Tran, at int64) {
	t.Helper()
	last, next := around(l, at)
	if got, e := foot.At(f, at); got != last || e != api.OK {
		t.Fatalf("At(%v, %d) is %v, %d, not %v", f, at, got, e, last)
	}
	if got, e := foot.Next(f, at); got != next || e != api.OK {
		t.Fatalf("Next(%v, %d) is %v, %d, not %v", f, at, got, e, next)
	}
}

func checkYear(t *testing.T, f comp.Foot, y int64) {
	t.Helper()
	if got, e := foot.Year(f, y); !slices.Equal(got, pair(f, y)) || e != api.OK {
		t.Fatalf("Year(%v, %d) is %v, %d, not %v", f, y, got, e, pair(f, y))
	}
}

// refused checks that all calls tell an error, with nothing beside it.
func refused(t *testing.T, f comp.Foot, y, at int64, want api.Errno) {
	t.Helper()
	if got, e := foot.Year(f, y); e != want || len(got) != 0 {
		t.Errorf("Year(%v, %d) is %v, %d, not %d", f, y, got, e, want)
	}
	refusedAt(t, f, at, want)
}

func refusedAt(t *testing.T, f comp.Foot, at int64, want api.Errno) {
	t.Helper()
	if got, e := foot.At(f, at); e != want || got != (api.Tran{}) {
		t.Errorf("At(%v, %d) is %v, %d, not %d", f, at, got, e, want)
	}
	if got, e := foot.Next(f, at); e != want || got != (api.Tran{}) {
		t.Errorf("Next(%v, %d) is %v, %d, not %d", f, at, got, e, want)
	}
}

// The document's example.
func TestExample(t *testing.T) {
	f := berlin()
	spring := api.Tran{At: 1711846800, Off: 7200, Dst: true, Abbr: "CEST"}
	autumn := api.Tran{At: 1729990800, Off: 3600, Abbr: "CET"}
	if l, e := foot.Year(f, 2024); !slices.Equal(l, []api.Tran{spring, autumn}) || e != api.OK {
		t.Error("Year is", l, e)
	}
	ahead := api.Tran{At: utc(2023, 10, 29, 1, 0, 0), Off: 3600, Abbr: "CET"}
	if s, e := foot.At(f, 1711846799); s != ahead || e != api.OK {
		t.Error("At is", s, e)
	}
	if s, e := foot.At(f, 1711846800); s != spring || e != api.OK {
		t.Error("At is", s, e)
	}
	if s, e := foot.Next(f, 1711846799); s != spring || e != api.OK {
		t.Error("Next is", s, e)
	}
	if s, e := foot.Next(f, 1711846800); s != autumn || e != api.OK {
		t.Error("Next is", s, e)
	}
	// Where the foot begins plays no part, nor in which order its halves are.
	f.From, f.A, f.B = math.MaxInt64, f.B, f.A
	if l, e := foot.Year(f, 2024); !slices.Equal(l, []api.Tran{spring, autumn}) || e != api.OK {
		t.Error("Year is", l, e)
	}
}

// P11.2: feet of the world against package time's zones.
func TestWorld(t *testing.T) {
	for name, f := range map[string]comp.Foot{"Europe/Berlin": berlin(), "America/New_York": newYork(), "Australia/Sydney": sydney()} {
		loc, err := time.LoadLocation(name)
		if err != nil {
			t.Fatal(err)
		}
		for at := utc(2009, 1, 1, 0, 0, 0); at < utc(2600, 1, 1, 0, 0, 0); {
			next, e := foot.Next(f, at)
			if e != api.OK {
				t.Fatal(e)
			}
			for _, x := range []int64{at, at + 1, next.At - 1, next.At} {
				s, e := foot.At(f, x)
				there := time.Unix(x, 0).In(loc)
				abbr, off := there.Zone()
				if e != api.OK || s.Off != int64(off) || s.Abbr != abbr || s.Dst != there.IsDST() {
					t.Fatal(name, "is", s, "at", there)
				}
			}
			at = next.At
		}
	}
}

// P11.1: the clock by which a shift is, and whose save counts.
func TestKinds(t *testing.T) {
	f := comp.Foot{Has: true, Off: 5000,
		A: comp.Half{Month: 2, On: when.On{N: 10}, At: when.At{Sec: 100, Kind: 'w'}, Save: 600, Abbr: "A"},
		B: comp.Half{Month: 8, On: when.On{N: 20}, At: when.At{Sec: 200, Kind: 'w'}, Save: 1800, Abbr: "B"}}
	feb, aug := utc(2001, 2, 10, 0, 1, 40), utc(2001, 8, 20, 0, 3, 20)
	for kind, want := range map[byte][2]int64{
		'w': {feb - 5000 - 1800, aug - 5000 - 600},
		's': {feb - 5000, aug - 5000},
		'u': {feb, aug},
	} {
		f.A.At.Kind, f.B.At.Kind = kind, kind
		l, e := foot.Year(f, 2001)
		both := []api.Tran{{At: want[0], Off: 5600, Dst: true, Abbr: "A"}, {At: want[1], Off: 6800, Dst: true, Abbr: "B"}}
		if !slices.Equal(l, both) || e != api.OK {
			t.Errorf("Year by %c is %v, %d", kind, l, e)
		}
	}
}

// P11.1, P11.2: what can not be, at each of its bounds.
func TestCanBe(t *testing.T) {
	right := []func(f *comp.Foot){
		func(f *comp.Foot) {},
		func(f *comp.Foot) { f.Off = 50400 },
		func(f *comp.Foot) { f.Off = -50400 },
		func(f *comp.Foot) { f.A.Save, f.B.Save = 7200, 7200 },
		func(f *comp.Foot) { f.A.Save, f.B.Save = 0, 0 },
		func(f *comp.Foot) { f.A.Save = 1 },
		func(f *comp.Foot) { f.A.Month, f.B.Month = 1, 3 },
		func(f *comp.Foot) { f.A.Month, f.B.Month = 12, 2 },
		func(f *comp.Foot) { f.A.Month, f.B.Month = 12, 10 },
		func(f *comp.Foot) { f.A.At.Sec, f.B.At.Sec = 0, 86400 },
		func(f *comp.Foot) { f.A.On = when.On{N: 1}; f.B.On = when.On{N: 31} },
		func(f *comp.Foot) { f.A.On = when.On{Kind: 3, Wd: 6, N: 1}; f.B.On = when.On{Kind: 2, Wd: 6, N: 31} },
		func(f *comp.Foot) { f.A.Abbr, f.B.Abbr = "", "\xff" },
		func(f *comp.Foot) { f.From = math.MinInt64 },
	}
	for i, change := range right {
		f := berlin()
		change(&f)
		checkYear(t, f, 2024)
		checkAt(t, f, many(f, 2024), utc(2024, 7, 1, 0, 0, 0))
		if t.Failed() {
			t.Fatal("right", i)
		}
	}
	wrong := []func(f *comp.Foot){
		func(f *comp.Foot) { *f = comp.Foot{} },
		func(f *comp.Foot) { f.Has = false },
		func(f *comp.Foot) { f.Off = 50401 },
		func(f *comp.Foot) { f.Off = -50401 },
		func(f *comp.Foot) { f.Off = math.MaxInt64 },
		func(f *comp.Foot) { f.Off = math.MinInt64 },
	}
	halves := []func(h *comp.Half){
		func(h *comp.Half) { h.Month = 0 },
		func(h *comp.Half) { h.Month = 13 },
		func(h *comp.Half) { h.Month = -3 },
		func(h *comp.Half) { h.Month = math.MinInt64 },
		func(h *comp.Half) { h.Month = math.MaxInt64 },
		func(h *comp.Half) { h.Save = -1 },
		func(h *comp.Half) { h.Save = 7201 },
		func(h *comp.Half) { h.Save = math.MaxInt64 },
		func(h *comp.Half) { h.Save = math.MinInt64 },
		func(h *comp.Half) { h.At.Sec = -1 },
		func(h *comp.Half) { h.At.Sec = 86401 },
		func(h *comp.Half) { h.At.Sec = math.MaxInt64 },
		func(h *comp.Half) { h.At.Kind = 0 },
		func(h *comp.Half) { h.At.Kind = 'g' },
		func(h *comp.Half) { h.At.Kind = 'W' },
		func(h *comp.Half) { h.On = when.On{} },
		func(h *comp.Half) { h.On = when.On{N: 32} },
		func(h *comp.Half) { h.On = when.On{N: 5, Wd: 1} },
		func(h *comp.Half) { h.On = when.On{Kind: 1, Wd: 7} },
		func(h *comp.Half) { h.On = when.On{Kind: 1, N: 1} },
		func(h *comp.Half) { h.On = when.On{Kind: 2, Wd: -1, N: 1} },
		func(h *comp.Half) { h.On = when.On{Kind: 3, Wd: 1} },
		func(h *comp.Half) { h.On = when.On{Kind: 4, Wd: 1, N: 1} },
		func(h *comp.Half) { h.On = when.On{Kind: -1, N: 1} },
	}
	for _, change := range halves {
		wrong = append(wrong, func(f *comp.Foot) { change(&f.A) }, func(f *comp.Foot) { change(&f.B) })
	}
	for i, change := range wrong {
		f := berlin()
		change(&f)
		refused(t, f, 2024, 0, api.ErrArg)
		// That comes ahead of what is out of range.
		refused(t, f, lastYear, math.MaxInt64, api.ErrArg)
		if t.Failed() {
			t.Fatal("wrong", i)
		}
	}
}

// P11.1: all pairs of months.
func TestMonths(t *testing.T) {
	near := 0
	for a := int64(1); a <= 12; a++ {
		for b := int64(1); b <= 12; b++ {
			f := berlin()
			f.A.Month, f.B.Month = a, b
			// How many months it is from the one to the other, and on to the first again.
			on, back := (b-a+12)%12, (a-b+12)%12
			if on < 2 || back < 2 {
				near++
				refused(t, f, 2024, 0, api.ErrArg)
				continue
			}
			checkYear(t, f, 2024)
			checkAt(t, f, many(f, 1970), 0)
		}
	}
	if near != 36 {
		t.Error(near, "pairs of months are too near")
	}
}

// P11.1, P11.2: the first years and instants that may be asked, and the last ones.
func TestRange(t *testing.T) {
	for _, f := range []comp.Foot{berlin(), newYork(), sydney(), edge(true), edge(false)} {
		for _, y := range []int64{firstYear + 1, firstYear + 2, 0, lastYear - 2, lastYear - 1} {
			checkYear(t, f, y)
		}
		for _, y := range []int64{firstYear, firstYear - 1, lastYear, lastYear + 1, math.MinInt64, math.MaxInt64} {
			if l, e := foot.Year(f, y); e != api.ErrRange || len(l) != 0 {
				t.Error("Year", y, "is", l, e)
			}
		}
		first, last := utc(firstYear+4, 1, 1, 0, 0, 0), utc(lastYear-4, 12, 31, 23, 59, 59)
		for _, at := range []int64{first, first + 1, first + 86400*100} {
			checkAt(t, f, many(f, firstYear+4), at)
		}
		for _, at := range []int64{last, last - 1, last - 86400*100} {
			checkAt(t, f, many(f, lastYear-4), at)
		}
		for _, at := range []int64{first - 1, last + 1, math.MinInt64, math.MaxInt64, math.MinInt64 + 1, -1 << 60, 1 << 60} {
			refusedAt(t, f, at, api.ErrRange)
		}
	}
}

// edge is a foot whose shifts are not of the year whose they are: January's is in the year ahead, or December's in that behind.
func edge(ahead bool) comp.Foot {
	f := comp.Foot{Has: true, Off: 50400,
		A: comp.Half{Month: 1, On: when.On{Kind: 3, Wd: 3, N: 1}, At: when.At{Kind: 'w'}, Save: 3600, Abbr: "A"},
		B: comp.Half{Month: 3, On: when.On{N: 5}, At: when.At{Kind: 'w'}, Save: 7200, Abbr: "B"}}
	if !ahead {
		f.Off = -50400
		f.A = comp.Half{Month: 12, On: when.On{Kind: 2, Wd: 3, N: 31}, At: when.At{Sec: 86400, Kind: 'w'}, Abbr: "A"}
		f.B.Month = 10
	}
	return f
}

// P11.2: shifts that are in the year beside their own.
func TestEdges(t *testing.T) {
	for _, f := range []comp.Foot{edge(true), edge(false)} {
		beside := 0
		for y := int64(1995); y < 2035; y++ {
			checkYear(t, f, y)
			l := many(f, y)
			for _, s := range pair(f, y) {
				if int64(time.Unix(s.At, 0).UTC().Year()) != y {
					beside++
				}
				for _, at := range []int64{s.At - 1, s.At, s.At + 1} {
					checkAt(t, f, l, at)
				}
			}
			for d := range 20 {
				checkAt(t, f, l, utc(int(y), 12, 20+d, 0, 0, 0))
				checkAt(t, f, l, utc(int(y), 12, 20+d, 0, 0, 0)-1)
			}
		}
		if beside < 30 {
			t.Error("too few shifts in the year beside", beside)
		}
	}
}

func anyHalf(r *rand.Rand, month int64) comp.Half {
	on := when.On{Kind: r.Intn(4), Wd: r.Int63n(7), N: r.Int63n(31) + 1}
	if r.Intn(4) == 0 {
		on.N = []int64{1, 31}[r.Intn(2)]
	}
	if on.Kind == 0 {
		on.Wd = 0
	}
	if on.Kind == 1 {
		on.N = 0
	}
	at := when.At{Sec: r.Int63n(86401), Kind: "wsu"[r.Intn(3)]}
	if r.Intn(4) == 0 {
		at.Sec = []int64{0, 86400}[r.Intn(2)]
	}
	save := []int64{0, 3600, 7200, r.Int63n(7201)}[r.Intn(4)]
	return comp.Half{Month: month, On: on, At: at, Save: save, Abbr: strconv.Itoa(r.Intn(50))}
}

func anyFoot(r *rand.Rand) comp.Foot {
	m := r.Int63n(12)
	n := (m + 2 + r.Int63n(9)) % 12
	off := []int64{0, -50400, 50400, r.Int63n(100801) - 50400}[r.Intn(4)]
	return comp.Foot{Has: true, From: r.Int63(), Off: off, A: anyHalf(r, m+1), B: anyHalf(r, n+1)}
}

// P11.1 to P11.4: many feet, in years near and far.
func TestMany(t *testing.T) {
	r := rand.New(rand.NewSource(11))
	for range 4000 {
		f := anyFoot(r)
		y := []int64{1970 + r.Int63n(150), firstYear + 4 + r.Int63n(lastYear-firstYear-8), firstYear + 5, lastYear - 5}[r.Intn(4)]
		checkYear(t, f, y)
		l := many(f, y)
		for i := 1; i < len(l); i++ {
			if l[i].At <= l[i-1].At {
				t.Fatal("shifts do not rise", f, l)
			}
		}
		// All that is within the years beside, which may be asked, too.
		for range 3 {
			at := utc(int(y), 1, 1, 0, 0, 0) + r.Int63n(365*86400)
			checkAt(t, f, l, at)
			checkFollows(t, f, at)
		}
		for _, s := range pair(f, y) {
			for _, at := range []int64{s.At - 1, s.At, s.At + 1} {
				checkAt(t, f, l, at)
			}
		}
		if y < lastYear-400 {
			checkCycle(t, f, y)
		}
	}
}

// checkFollows: P11.3.
func checkFollows(t *testing.T, f comp.Foot, at int64) {
	t.Helper()
	last, _ := foot.At(f, at)
	next, _ := foot.Next(f, at)
	if last.At > at || next.At <= at {
		t.Fatal("At and Next are not around", at, last, next)
	}
	if s, e := foot.At(f, next.At); s != next || e != api.OK {
		t.Fatal("At of Next is", s, e, "not", next)
	}
	if s, e := foot.Next(f, last.At); s != next || e != api.OK {
		t.Fatal("Next of At is", s, e, "not", next)
	}
	for _, x := range []int64{last.At, last.At + 1, next.At - 1, last.At + (next.At-last.At)/2} {
		if s, e := foot.At(f, x); s != last || e != api.OK {
			t.Fatal("At is", s, e, "not", last)
		}
	}
}

// checkCycle: P11.4.
func checkCycle(t *testing.T, f comp.Foot, y int64) {
	t.Helper()
	now, _ := foot.Year(f, y)
	then, e := foot.Year(f, y+400)
	for i := range now {
		now[i].At += cycle
	}
	if !slices.Equal(now, then) || e != api.OK {
		t.Fatal("shifts do not come again", f, now, then, e)
	}
}

// P11.3: two shifts in each year, one behind the other, over a whole cycle.
func TestRise(t *testing.T) {
	f := newYork()
	at := utc(2000, 1, 1, 0, 0, 0)
	count := 0
	for {
		s, e := foot.Next(f, at)
		if e != api.OK || s.At <= at {
			t.Fatal("Next is", s, e)
		}
		if at = s.At; at >= utc(2400, 1, 1, 0, 0, 0) {
			break
		}
		count++
	}
	if count != 800 {
		t.Error(count, "shifts in 400 years")
	}
}

// Rules 4 and 6: what is written into an answer is seen by no other one; each answer is the same again.
func TestOwnMemory(t *testing.T) {
	f := berlin()
	a, _ := foot.Year(f, 2024)
	b, _ := foot.Year(f, 2024)
	want := slices.Clone(b)
	a[0], a[1] = api.Tran{}, api.Tran{}
	_ = append(a[:1], api.Tran{}, api.Tran{})
	if c, _ := foot.Year(f, 2024); !slices.Equal(b, want) || !slices.Equal(c, want) {
		t.Error("answers share memory", b, c)
	}
	if f != berlin() {
		t.Error("the foot is changed", f)
	}
}
