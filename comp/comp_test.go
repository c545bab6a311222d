package comp_test

import (
	"math"
	"math/rand"
	"reflect"
	"slices"
	"strconv"
	"strings"
	"testing"
	"time"
	_ "time/tzdata"

	"computus/api"
	"computus/comp"
	"computus/fire"
	"computus/src"
	"computus/when"
)

// example is the document's own source.
const example = "Rule EU 1977 1980 - Apr Sun>=1 1:00u 1:00 S\n" +
	"Rule EU 1981 max - Mar lastSun 1:00u 1:00 S\n" +
	"Rule EU 1996 max - Oct lastSun 1:00u 0:00 -\n" +
	"Zone Europe/Berlin 0:53:28 - LMT 1893 Apr 1 0:00\n" +
	"1:00 EU CE%sT\n" +
	"Link Europe/Berlin Berlin\n"

// sourceOf is a source that must be right.
func sourceOf(t *testing.T, s string) src.DB {
	t.Helper()
	db, line, e := src.Parse(s)
	if e != api.OK {
		t.Fatalf("Parse(%q) is %d, %d", s, line, e)
	}
	return db
}

// compile is the table of the first zone of a source, which can be made.
func compile(t *testing.T, s string) comp.Table {
	t.Helper()
	db := sourceOf(t, s)
	x, e := comp.Compile(db, db.Zones[0])
	if e != api.OK {
		t.Fatalf("Compile of %q is %d", s, e)
	}
	return x
}

// refused checks that the first zone of a source can not be made.
func refused(t *testing.T, s string, want api.Errno) {
	t.Helper()
	db := sourceOf(t, s)
	x, e := comp.Compile(db, db.Zones[0])
	if e != want || e != api.OK && !reflect.DeepEqual(x, comp.Table{}) {
		t.Errorf("Compile of %q is %v, %d, not %d", s, x, e, want)
	}
}

// utc is the instant of a time in UTC.
func utc(y int, m time.Month, d, h, min, s int) int64 {
	return time.Date(y, m, d, h, min, s, 0, time.UTC).Unix()
}

const lastYear = 2106 // of the firings that the oracle knows

// wanted is a zone as section Words of the chapter has it, with all firings of each era's rules.
type wanted struct {
	eras  []src.Era
	rules [][]src.Rule
	fires [][]fire.Fire
	ends  []int64
}

func want(db src.DB, z src.Zone) wanted {
	w := wanted{eras: z.Eras}
	for i, era := range z.Eras {
		var l []src.Rule
		for _, r := range db.Rules {
			if era.Rule != "" && r.Name == era.Rule {
				l = append(l, r)
			}
		}
		fires, _ := fire.Run(l, era.Off, 1800, lastYear)
		w.rules, w.fires = append(w.rules, l), append(w.fires, fires)
		if i == len(z.Eras)-1 {
			break
		}
		day, _ := when.Day(era.Until.Year, era.Until.Month, era.Until.On)
		at := (day+10957)*86400 + era.Until.At.Sec
		if era.Until.At.Kind != 'u' {
			at -= era.Off
		}
		if era.Until.At.Kind == 'w' {
			save, _ := w.state(i, at-1)
			at -= save
		}
		w.ends = append(w.ends, at)
	}
	return w
}

func (w wanted) state(i int, at int64) (int64, string) {
	if w.eras[i].Rule == "" {
		return w.eras[i].Save, ""
	}
	save, letter := int64(0), ""
	for _, f := range slices.Backward(w.fires[i]) {
		if f.Save == 0 {
			letter = f.Letter
		}
	}
	for _, f := range w.fires[i] {
		if f.At <= at {
			save, letter = f.Save, f.Letter
		}
	}
	return save, letter
}

func (w wanted) direct(at int64) api.Tran {
	i := slices.IndexFunc(w.ends, func(end int64) bool { return end > at })
	if i < 0 {
		i = len(w.ends)
	}
	save, letter := w.state(i, at)
	off := w.eras[i].Off + save
	return api.Tran{Off: off, Dst: save != 0, Abbr: src.Format(w.eras[i].Format, save, letter, off)}
}

func rises(l []int64) bool {
	return slices.IsSorted(l) && len(slices.Compact(slices.Clone(l))) == len(l)
}

func (w wanted) errno() api.Errno {
	if !rises(w.ends) {
		return api.ErrOrder
	}
	for i := range w.eras {
		fires, _ := fire.Run(w.rules[i], w.eras[i].Off, 1800, 2102)
		var l []int64
		for _, f := range fires {
			l = append(l, f.At)
		}
		if !rises(l) {
			return api.ErrOrder
		}
	}
	var months []int64
	for _, r := range w.rules[len(w.rules)-1] {
		if r.To == src.Forever {
			months = append(months, r.Month)
		}
	}
	if len(months) > 2 {
		return api.ErrTail
	}
	if len(months) == 2 {
		slices.Sort(months)
		if gap := months[1] - months[0]; gap < 2 || gap > 10 {
			return api.ErrTail
		}
	}
	return api.OK
}

func (w wanted) horizon() int64 {
	years := []int64{1798}
	for _, r := range w.rules[len(w.rules)-1] {
		years = append(years, r.From)
		if r.To != src.Forever {
			years = append(years, r.To)
		}
	}
	for _, era := range w.eras {
		if era.Until.Year != 0 {
			years = append(years, era.Until.Year)
		}
	}
	return slices.Max(years) + 2
}

func (w wanted) table(name string) comp.Table {
	x := comp.Table{Name: name, First: w.direct(-1 << 50)}
	times := slices.Clone(w.ends)
	horizon := w.horizon()
	for i, l := range w.rules {
		fires, _ := fire.Run(l, w.eras[i].Off, 1800, horizon)
		for _, f := range fires {
			times = append(times, f.At)
		}
	}
	slices.Sort(times)
	for _, at := range slices.Compact(times) {
		if now := w.direct(at); now != w.direct(at-1) {
			now.At = at
			x.Trans = append(x.Trans, now)
		}
	}
	last := len(w.eras) - 1
	var halves []comp.Half
	for _, r := range w.rules[last] {
		if r.To == src.Forever {
			abbr := src.Format(w.eras[last].Format, r.Save, r.Letter, w.eras[last].Off+r.Save)
			halves = append(halves, comp.Half{Month: r.Month, On: r.On, At: r.At, Save: r.Save, Abbr: abbr})
		}
	}
	if len(halves) == 2 {
		ahead, _ := fire.Run(w.rules[last], w.eras[last].Off, 1800, horizon)
		from := w.fires[last][len(ahead)].At
		x.Foot = comp.Foot{Has: true, From: from, Off: w.eras[last].Off, A: halves[0], B: halves[1]}
	}
	return x
}

// asTable is how clocks stand by a table, ahead of its foot.
func asTable(x comp.Table, at int64) api.Tran {
	now := x.First
	for _, t := range x.Trans {
		if t.At <= at {
			now = t
		}
	}
	now.At = 0
	return now
}

func sameTable(a, b comp.Table) bool {
	return a.Name == b.Name && a.First == b.First && slices.Equal(a.Trans, b.Trans) && a.Foot == b.Foot
}

// checkZone holds all that comp says of a zone against what it must say.
func checkZone(t *testing.T, r *rand.Rand, db src.DB, z src.Zone) api.Errno {
	t.Helper()
	w := want(db, z)
	ends, e := comp.Ends(db, z)
	if !slices.Equal(ends, w.ends) || e != api.OK {
		t.Fatalf("Ends of %q is %v, %d, not %v", src.Text(db), ends, e, w.ends)
	}
	x, e := comp.Compile(db, z)
	if e != w.errno() {
		t.Fatalf("Compile of %s in %q is %d, not %d", z.Name, src.Text(db), e, w.errno())
	}
	checkDirect(t, r, db, z, w)
	if e != api.OK {
		if !reflect.DeepEqual(x, comp.Table{}) {
			t.Error("Compile with an error is", x)
		}
		return e
	}
	if y := w.table(z.Name); !sameTable(x, y) {
		t.Fatalf("Compile of %s in %q is\n%v, not\n%v", z.Name, src.Text(db), x, y)
	}
	checkTable(t, r, w, x)
	return e
}

// checkDirect: how clocks stand at ends, at firings, just ahead and anywhere.
func checkDirect(t *testing.T, r *rand.Rand, db src.DB, z src.Zone, w wanted) {
	t.Helper()
	times := []int64{math.MinInt64, -1 << 50, 0, utc(1800, 1, 1, 0, 0, 0), utc(2104, 12, 1, 0, 0, 0)}
	for _, end := range w.ends {
		times = append(times, end-1, end, end+1)
	}
	for _, l := range w.fires {
		for range 4 {
			if len(l) > 0 {
				at := l[r.Intn(len(l))].At
				times = append(times, at-1, at)
			}
		}
	}
	for range 4 {
		times = append(times, utc(1790+r.Intn(314), 1, 1, 0, 0, 0)+r.Int63n(1<<25))
	}
	for _, at := range times {
		if at > utc(2105, 1, 1, 0, 0, 0) {
			continue
		}
		if got, e := comp.Direct(db, z, at); got != w.direct(at) || e != api.OK {
			t.Fatalf("Direct of %s in %q at %d is %v, %d, not %v", z.Name, src.Text(db), at, got, e, w.direct(at))
		}
	}
}

// checkTable: P10.3 and P10.4.
func checkTable(t *testing.T, r *rand.Rand, w wanted, x comp.Table) {
	t.Helper()
	stop := utc(2105, 1, 1, 0, 0, 0)
	if x.Foot.Has {
		stop = x.Foot.From
	}
	times := []int64{math.MinInt64, -1 << 40, stop - 1}
	ahead := x.First
	for i, now := range x.Trans {
		if i > 0 && now.At <= ahead.At || now.At >= stop {
			t.Fatal("Trans do not rise up to the foot", x)
		}
		if now.Off == ahead.Off && now.Dst == ahead.Dst && now.Abbr == ahead.Abbr {
			t.Fatal("Trans do not differ", x)
		}
		ahead = now
		if r.Intn(10) == 0 {
			times = append(times, now.At-1, now.At, now.At+r.Int63n(1<<24))
		}
	}
	for range 6 {
		times = append(times, utc(1790+r.Intn(314), 1, 1, 0, 0, 0)+r.Int63n(1<<25))
	}
	for _, at := range times {
		if at < stop && asTable(x, at) != w.direct(at) {
			t.Fatal("the table is not the source", x, at)
		}
	}
}

// The document's example.
func TestExample(t *testing.T) {
	x := compile(t, example)
	if x.Name != "Europe/Berlin" || x.First != (api.Tran{Off: 3208, Abbr: "LMT"}) {
		t.Error("Compile is", x)
	}
	if x.Trans[0] != (api.Tran{At: -2422054408, Off: 3600, Abbr: "CET"}) {
		t.Error("Trans begin with", x.Trans[0])
	}
	last := when.On{Kind: 1}
	at := when.At{Sec: 3600, Kind: 'u'}
	// The greatest year that is named is 1996, so that the foot begins in 1999.
	foot := comp.Foot{Has: true, From: utc(1999, 3, 28, 1, 0, 0), Off: 3600, A: comp.Half{Month: 3, On: last, At: at, Save: 3600, Abbr: "CEST"}, B: comp.Half{Month: 10, On: last, At: at, Abbr: "CET"}}
	if x.Foot != foot {
		t.Error("Foot is", x.Foot)
	}
	// From 1977 on it is summer time, till 1996, as no rule ends it.
	tail := []api.Tran{
		{At: utc(1977, 4, 3, 1, 0, 0), Off: 7200, Dst: true, Abbr: "CEST"},
		{At: utc(1996, 10, 27, 1, 0, 0), Off: 3600, Abbr: "CET"},
		{At: utc(1997, 3, 30, 1, 0, 0), Off: 7200, Dst: true, Abbr: "CEST"},
		{At: utc(1997, 10, 26, 1, 0, 0), Off: 3600, Abbr: "CET"},
		{At: utc(1998, 3, 29, 1, 0, 0), Off: 7200, Dst: true, Abbr: "CEST"},
		{At: utc(1998, 10, 25, 1, 0, 0), Off: 3600, Abbr: "CET"},
	}
	if !slices.Equal(x.Trans[1:], tail) {
		t.Error("Trans are", x.Trans)
	}
}

// world is a source of zones that package time knows too, from a year on.
const world = "Rule EU 1979 1995 - Sep lastSun 1:00u 0 -\n" +
	"Rule EU 1980 only - Apr Sun>=1 1:00u 1:00 S\n" +
	"Rule EU 1981 max - Mar lastSun 1:00u 1:00 S\n" +
	"Rule EU 1996 max - Oct lastSun 1:00u 0 -\n" +
	"Rule US 1967 2006 - Oct lastSun 2:00 0 S\n" +
	"Rule US 1967 1973 - Apr lastSun 2:00 1:00 D\n" +
	"Rule US 1974 only - Jan 6 2:00 1:00 D\n" +
	"Rule US 1975 only - Feb 23 2:00 1:00 D\n" +
	"Rule US 1976 1986 - Apr lastSun 2:00 1:00 D\n" +
	"Rule US 1987 2006 - Apr Sun>=1 2:00 1:00 D\n" +
	"Rule US 2007 max - Mar Sun>=8 2:00 1:00 D\n" +
	"Rule US 2007 max - Nov Sun>=1 2:00 0 S\n" +
	"Rule RU 1993 2010 - Mar lastSun 2:00s 1:00 S\n" +
	"Rule RU 1996 2010 - Oct lastSun 2:00s 0 -\n" +
	"Rule AN 2001 2007 - Oct lastSun 2:00s 1:00 D\n" +
	"Rule AN 2001 2005 - Mar lastSun 2:00s 0 S\n" +
	"Rule AN 2006 only - Apr Sun>=1 2:00s 0 S\n" +
	"Rule AN 2007 only - Mar lastSun 2:00s 0 S\n" +
	"Rule AN 2008 max - Apr Sun>=1 2:00s 0 S\n" +
	"Rule AN 2008 max - Oct Sun>=1 2:00s 1:00 D\n" +
	"Zone Europe/Berlin 1:00 EU CE%sT\n" +
	"Zone America/New_York -5:00 US E%sT\n" +
	"Zone Australia/Sydney 10:00 AN AE%sT\n" +
	"Zone Europe/Moscow 3:00 RU MSK/MSD 2011 Mar 27 2:00s\n4:00 - MSK 2014 Oct 26 2:00s\n3:00 - MSK\n" +
	"Zone Asia/Kolkata 5:30 - IST\n" +
	"Zone America/Phoenix -7:00 - MST\n"

// P10.1, P10.2: zones of the world, against package time, and that by the two rules of the foot far away.
func TestWorld(t *testing.T) {
	db := sourceOf(t, world)
	from := map[string]int{"Europe/Berlin": 1980, "America/New_York": 1968, "Australia/Sydney": 2002, "Europe/Moscow": 1997, "Asia/Kolkata": 1970, "America/Phoenix": 1970}
	for _, z := range db.Zones {
		loc, err := time.LoadLocation(z.Name)
		if err != nil {
			t.Fatal(err)
		}
		x, e := comp.Compile(db, z)
		if e != api.OK {
			t.Fatal("Compile", z.Name, e)
		}
		check := func(at int64, now api.Tran) {
			there := time.Unix(at, 0).In(loc)
			abbr, off := there.Zone()
			if now != (api.Tran{Off: int64(off), Dst: there.IsDST(), Abbr: abbr}) {
				t.Fatal(z.Name, "is", now, "at", there)
			}
		}
		both := func(at int64) {
			now, e := comp.Direct(db, z, at)
			if e != api.OK {
				t.Fatal(e)
			}
			check(at, now)
			if !x.Foot.Has || at < x.Foot.From {
				check(at, asTable(x, at))
			}
		}
		begin := utc(from[z.Name], 1, 1, 0, 0, 0)
		for at := begin; at < utc(2045, 1, 1, 0, 0, 0); at += 86400 * 3 {
			both(at)
		}
		for _, now := range x.Trans {
			if now.At > begin {
				both(now.At - 1)
				both(now.At)
			}
		}
		for at := utc(2300, 1, 1, 0, 0, 0); at < utc(2302, 1, 1, 0, 0, 0); at += 3600 {
			both(at)
		}
	}
}

// P10.1: an UNTIL's instant by each clock, with the save just ahead of it.
func TestEnds(t *testing.T) {
	const rules = "Rule R 2000 max - Apr 1 2:00 1:00 S\nRule R 2000 max - Oct 1 2:00 0 W\n"
	local := utc(2001, 7, 1, 0, 0, 0)
	spring, autumn := utc(2001, 4, 1, 2, 0, 0)-3600, utc(2001, 10, 1, 1, 0, 0)-3600
	for until, want := range map[string]int64{
		"1 R X 2001 Jul 1 0":       local - 3600 - 3600,
		"1 R X 2001 Jul 1 0w":      local - 3600 - 3600,
		"1 R X 2001 Jul 1 0s":      local - 3600,
		"1 R X 2001 Jul 1 0u":      local,
		"1 R X 2001 Jul 1 24:00u":  local + 86400,
		"-1 R X 2001 Jul":          local + 3600 - 3600,
		"-1 0:20 X 2001 Jul":       local + 3600 - 1200,
		"1 2:00 X 2001 Jul 1 0s":   local - 3600,
		"1 - X 2001 Jul 1 0:00:07": local - 3600 + 7,
		"1 - X 2001 Jun 31":        local - 3600,
		"1 - X 2001 Jul Sun<=6":    local - 3600,
		"14 - X 2001":              utc(2001, 1, 1, 0, 0, 0) - 50400,
		"-14 - X 2001":             utc(2001, 1, 1, 0, 0, 0) + 50400,
		// Up to the shift to summer time there is no save just ahead, behind it there is.
		"1 R X 2001 Apr 1 1:59:59": spring - 1,
		"1 R X 2001 Apr 1 2:00":    spring,
		"1 R X 2001 Apr 1 2:00:01": spring + 1 - 3600,
		"1 R X 2001 Apr 1 3:00":    spring,
		// The shift back is at 2:00 of summer time, which is 1:00 of L less Off: the save is gone an hour early.
		"1 R X 2001 Oct 1 0:59:59": autumn - 1 - 3600,
		"1 R X 2001 Oct 1 1:00":    autumn - 3600,
		"1 R X 2001 Oct 1 1:00:01": autumn + 1,
		"1 R X 2001 Oct 1 2:00":    autumn + 3600,
		// Ahead of all firings there is no save.
		"1 R X 1800": utc(1800, 1, 1, 0, 0, 0) - 3600,
	} {
		db := sourceOf(t, rules+"Zone Z "+until+"\n2 - Y\n")
		if got, e := comp.Ends(db, db.Zones[0]); e != api.OK || len(got) != 1 || got[0] != want {
			t.Error("Ends of", until, "is", got, e, "not", want)
		}
	}
	db := sourceOf(t, "Zone Z 1 - X 1990\n2 - Y 1980 Jan 1 0u\n3 - Y 1980 Jan 1 0u\n4 - Y\nZone One 1 - X\n")
	want := []int64{utc(1990, 1, 1, 0, 0, 0) - 3600, utc(1980, 1, 1, 0, 0, 0), utc(1980, 1, 1, 0, 0, 0)}
	if got, e := comp.Ends(db, db.Zones[0]); e != api.OK || !slices.Equal(got, want) {
		t.Error("Ends that do not rise are", got, e)
	}
	if got, e := comp.Ends(db, db.Zones[1]); e != api.OK || len(got) != 0 {
		t.Error("Ends of one era is", got, e)
	}
}

// P10.1: an instant is in the first era whose end is behind it, whether ends rise or not.
func TestDirectByEras(t *testing.T) {
	db := sourceOf(t, "Zone Z 1 - A 1990 Jan 1 0u\n2 - B 1980 Jan 1 0u\n3 - C 2000 Jan 1 0u\n4 1:00 D\n")
	a, c := utc(1990, 1, 1, 0, 0, 0), utc(2000, 1, 1, 0, 0, 0)
	for at, want := range map[int64]api.Tran{
		math.MinInt64: {Off: 3600, Abbr: "A"}, a - 1: {Off: 3600, Abbr: "A"}, a: {Off: 10800, Abbr: "C"}, c - 1: {Off: 10800, Abbr: "C"},
		c: {Off: 18000, Dst: true, Abbr: "D"}, math.MaxInt64: {Off: 18000, Dst: true, Abbr: "D"},
	} {
		if got, e := comp.Direct(db, db.Zones[0], at); got != want || e != api.OK {
			t.Error("Direct at", at, "is", got, e)
		}
	}
	refused(t, src.Text(db), api.ErrOrder)
}

// P10.1, P10.2: what clocks are called, by a save, by letters and by how far they are ahead in all.
func TestNames(t *testing.T) {
	const rules = "Rule R 2000 max - Apr 1 0u 0:30 S\nRule R 2000 max - Oct 1 0u 0 W\n"
	for format, want := range map[string][2]string{"A%sB": {"ASB", "AWB"}, "%z": {"+0200", "+0130"}, "w/s": {"s", "w"}, "X": {"X", "X"}} {
		s := rules + "Zone Z 1:30 R " + format + "\n"
		if format == "%z" {
			want[0] = "+02"
		}
		db := sourceOf(t, s)
		x := compile(t, s)
		if x.Foot.A.Abbr != want[0] || x.Foot.B.Abbr != want[1] || x.First != (api.Tran{Off: 5400, Abbr: want[1]}) {
			t.Error("Compile of", format, "is", x)
		}
		summer, winter := api.Tran{Off: 7200, Dst: true, Abbr: want[0]}, api.Tran{Off: 5400, Abbr: want[1]}
		for at, want := range map[int64]api.Tran{utc(2001, 4, 1, 0, 0, 0) - 1: winter, utc(2001, 4, 1, 0, 0, 0): summer, utc(2001, 10, 1, 0, 0, 0) - 1: summer, utc(2001, 10, 1, 0, 0, 0): winter, utc(90001, 5, 1, 0, 0, 0): summer, math.MaxInt64: winter} {
			if got, e := comp.Direct(db, db.Zones[0], at); got != want || e != api.OK {
				t.Error("Direct of", format, "at", at, "is", got, e, "not", want)
			}
		}
	}
}

// P10.1, P10.2: a zone without eras.
func TestNoEras(t *testing.T) {
	db := sourceOf(t, example)
	for _, z := range []src.Zone{{}, {Name: "Europe/Berlin"}, {Name: "A", Eras: []src.Era{}}} {
		if got, e := comp.Ends(db, z); len(got) != 0 || e != api.ErrArg {
			t.Error("Ends is", got, e)
		}
		if got, e := comp.Direct(db, z, 0); got != (api.Tran{}) || e != api.ErrArg {
			t.Error("Direct is", got, e)
		}
		if got, e := comp.Compile(db, z); !reflect.DeepEqual(got, comp.Table{}) || e != api.ErrArg {
			t.Error("Compile is", got, e)
		}
	}
}

// P10.2: ends that do not rise.
func TestEndsOrder(t *testing.T) {
	for s, e := range map[string]api.Errno{
		"Zone Z 1 - A 1990\n1 - B 1990\n1 - C\n":                                       api.ErrOrder,
		"Zone Z 1 - A 1990 Jan 1 0:00:00\n1 - B 1990 Jan 1 0:00:01\n1 - C\n":           api.OK,
		"Zone Z 1 - A 1990 Jan 1 0:00:01\n1 - B 1990\n1 - C\n":                         api.ErrOrder,
		"Zone Z 1 - A 1990 Jan 1 0\n2 - B 1990 Jan 1 1\n1 - C\n":                       api.ErrOrder,
		"Zone Z 1 - A 1990 Jan 1 0\n2 - B 1990 Jan 1 1:00:01\n1 - C\n":                 api.OK,
		"Zone Z 1 - A 1990 Jan 1 0u\n2 - B 1990 Jan 1 0u\n1 - C\n":                     api.ErrOrder,
		"Zone Z 1 - A 1990 Jan 1 0u\n2 - B 1990 Jan 1 0:00:01u\n1 - C\n":               api.OK,
		"Zone Z 1 - A 1990\n1 - B 1991\n1 - C 1992\n1 - D 1991\n1 - E\n":               api.ErrOrder,
		"Zone Z 1 - A 1990\n1 - B 1991\n1 - C 1992\n1 - D 1993\n1 - E\n":               api.OK,
		"Zone Z 1 - A 1990\n1 - B 1980\n1 - C 1992\n1 - D 1993\n1 - E\n":               api.ErrOrder,
		"Zone Z 1 - A 1990 Dec Sun>=31\n1 - B 1991 Jan Sun<=1\n1 - C\n":                api.ErrOrder,
		"Zone Z 1 - A 1800 Jan 1 0u\n1 - B 2100 Dec 31 24:00u\n1 - C\n":                api.OK,
		"Zone Z 1 1:00 A 1990 Jan 1 1:00\n1 - B 1990 Jan 1 0:00:00s\n1 - C\n":          api.ErrOrder,
		"Zone Z 1 1:00 A 1990 Jan 1 0:59\n1 - B 1990 Jan 1 0:00:00s\n1 - C\n":          api.OK,
		"Zone Z 14 - A 1990 Jan 1 0\n-14 - B 1990 Jan 1 0\n1 - C\n":                    api.OK,
		"Zone Z -14 - A 1990 Jan 1 0\n14 - B 1990 Jan 2 0\n1 - C\n":                    api.ErrOrder,
		"Zone Z 1 - A 1990\n2 - B\n":                                                   api.OK,
		"Zone Z 1 - A\n":                                                               api.OK,
		"Zone Z 1 - A 1990\n1 - A 1991\n1 - A\nZone B 1 - A 1990\n1 - B 1980\n3 - D\n": api.OK,
	} {
		refused(t, s, e)
	}
}

// P10.2: firings of an era's rules that do not rise, in whichever year and era.
func TestFiringsOrder(t *testing.T) {
	for s, e := range map[string]api.Errno{
		// At one time of the wall's clock, which is another instant by the save ahead.
		"Rule R 2000 only - Apr 1 0 0 A\nRule R 2000 only - Apr 1 0 0 B\n":                                       api.ErrOrder,
		"Rule R 2000 only - Apr 1 0 1:00 A\nRule R 2000 only - Apr 1 0 0 B\n":                                    api.ErrOrder,
		"Rule R 2000 only - Apr 1 0 1:00 A\nRule R 2000 only - Apr 1 1:00 0 B\n":                                 api.ErrOrder,
		"Rule R 2000 only - Apr 1 0 1:00 A\nRule R 2000 only - Apr 1 1:01 0 B\n":                                 api.OK,
		"Rule R 1999 only - Apr 1 0 1:00 S\nRule R 2000 only - Apr 1 0 0 A\nRule R 2000 only - Apr 1 0 1:00 B\n": api.OK,
		// By clocks of several kinds, one behind the other in order.
		"Rule R 2000 only - Apr 1 0u 0 A\nRule R 2000 only - Apr 1 1:00s 0 B\n":    api.ErrOrder,
		"Rule R 2000 only - Apr 1 0u 0 A\nRule R 2000 only - Apr 1 1:00:01s 0 B\n": api.OK,
		// In one year and in the next.
		"Rule R 2000 only - Dec Sun>=31 0 0 A\nRule R 2001 only - Jan Sun<=1 0 0 B\n": api.ErrOrder,
		"Rule R 2000 only - Dec 31 24:00u 0 A\nRule R 2001 only - Jan 1 0:00u 0 B\n":  api.ErrOrder,
		"Rule R 2000 only - Dec 31 24:00u 0 A\nRule R 2001 only - Jan 1 0:01u 0 B\n":  api.OK,
		// At the ends of the years that count.
		"Rule R 1800 only - Apr 1 0 0 A\nRule R 1800 only - Apr 1 0 0 B\n": api.ErrOrder,
		"Rule R 2100 only - Apr 1 0 0 A\nRule R 2100 only - Apr 1 0 0 B\n": api.ErrOrder,
		// October 1 is Sunday>=1 in 2000 and 2006, of the years that are named.
		"Rule R 2000 max - Oct 1 0 0 A\nRule R 2001 2005 - Oct Sun>=1 0 0 B\n": api.OK,
		"Rule R 2000 max - Oct 1 0 0 A\nRule R 2001 2006 - Oct Sun>=1 0 0 B\n": api.ErrOrder,
	} {
		refused(t, s+"Zone Z 1 R X\n", e)
		refused(t, s+"Zone Z 1 - X 1900\n1 R X 1950\n2 - X\n", e)
		refused(t, s+"Zone Z 1 R X 1900\n1 - X 1950\n2 - X\n", e)
		refused(t, s+"Zone Z 1 - X\nZone B 1 R X\n", api.OK)
	}
	// The firings are in a zone of the era's own offset.
	const rules = "Rule R 2000 only - Apr 1 0u 0 A\nRule R 2000 only - Apr 1 1:00s 0 B\n"
	refused(t, rules+"Zone Z 1 R X\n", api.ErrOrder)
	refused(t, rules+"Zone Z 0:59 R X\n", api.OK)
	refused(t, rules+"Zone Z 0:59 R X 1990\n1 R X\n", api.ErrOrder)
}

// P10.2: the first years in which two rules meet, up to two behind the last that may be named: these count, later ones do not.
func TestFiringsOrderByYears(t *testing.T) {
	counts := map[api.Errno]int{}
	for day := 1; day <= 28; day++ {
		for wd, name := range []string{"Sun", "Mon", "Tue", "Wed", "Thu", "Fri", "Sat"} {
			// They meet in the years in which that day is that weekday.
			s := "Rule R 2098 max - Feb " + strconv.Itoa(day) + " 0 0 A\nRule R 2098 max - Feb last" + name + " 0 0 B\n"
			want := api.ErrTail
			for y := 2098; y <= 2102; y++ {
				if at := time.Date(y, 2, day, 0, 0, 0, 0, time.UTC); int(at.Weekday()) == wd && day > 21 {
					want = api.ErrOrder
				}
			}
			refused(t, s+"Zone Z 1 R X\n", want)
			counts[want]++
			if want == api.ErrTail {
				want = api.OK
			}
			refused(t, s+"Zone Z 1 R X 2000\n1 - X\n", want)
		}
	}
	if counts[api.ErrOrder] < 20 || counts[api.ErrTail] < 20 {
		t.Error("too few of a kind", counts)
	}
}

// P10.2: rules that go on for ever, by how many they are and their months.
func TestTail(t *testing.T) {
	months := []string{"Jan", "Feb", "Mar", "Apr", "May", "Jun", "Jul", "Aug", "Sep", "Oct", "Nov", "Dec"}
	for a, first := range months {
		for b, second := range months {
			s := "Rule R 2000 max - " + first + " 10 0 1:00 S\nRule R 2000 max - " + second + " 12 0 0 W\n"
			// Of the numbers of two months the greater one is from two to ten above the other.
			gap := max(a, b) - min(a, b)
			want := api.ErrTail
			if gap >= 2 && gap <= 10 {
				want = api.OK
			}
			refused(t, s+"Zone Z 1 R X\n", want)
			refused(t, s+"Zone Z 1 - X 1990\n1 R X\n", want)
			refused(t, s+"Zone Z 1 R X 1990\n1 - X\n", api.OK)
			refused(t, s+"Rule Q 2000 2005 - Jul 1 0 0 -\nZone Z 1 R X 1990\n1 Q X\n", api.OK)
			if x, e := comp.Compile(sourceOf(t, s+"Zone Z 1 R X\n"), sourceOf(t, s+"Zone Z 1 R X\n").Zones[0]); e == api.OK && (x.Foot.A.Month != int64(a)+1 || x.Foot.B.Month != int64(b)+1) {
				t.Error("the foot has its rules not in their order", x.Foot)
			}
		}
	}
	three := "Rule R 2000 max - Jan 1 0 1:00 S\nRule R 2000 max - May 1 0 0 W\nRule R 2000 max - Sep 1 0 0 V\n"
	refused(t, three+"Zone Z 1 R X\n", api.ErrTail)
	refused(t, three+"Zone Z 1 R X 2050\n1 - X\n", api.OK)
	refused(t, strings.Replace(three, "max", "2100", 1)+"Zone Z 1 R X\n", api.OK)
	refused(t, three+"Rule R 2000 max - Sep 1 0 0 V\nZone Z 1 R X\n", api.ErrOrder)
}

// P10.2: which error is told of several.
func TestErrorsOrder(t *testing.T) {
	const tail = "Rule T 2000 max - Jan 1 0 0 -\nRule T 2000 max - Feb 1 0 0 -\n"
	const order = "Rule O 2000 max - Jan 1 0 0 -\nRule O 2000 max - Jan 1 0 0 -\n"
	refused(t, tail+"Zone Z 1 T X\n", api.ErrTail)
	refused(t, order+"Zone Z 1 O X\n", api.ErrOrder)
	refused(t, tail+order+"Zone Z 1 O X 1990\n1 T X\n", api.ErrOrder)
	refused(t, tail+"Zone Z 1 - X 1990\n1 - X 1980\n1 T X\n", api.ErrOrder)
}

// P10.2: one rule that goes on for ever, or none, has no foot; then it is nought.
func TestNoFoot(t *testing.T) {
	for _, s := range []string{
		"Zone Z 1 - X\n",
		"Zone Z 1 1:00 X 2000\n1 - Y\n",
		"Rule R 2000 max - Apr 1 0 1:00 S\nZone Z 1 R X\n",
		"Rule R 2000 max - Apr 1 0 1:00 S\nRule R 2000 2100 - Oct 1 0 0 S\nZone Z 1 R X\n",
		"Rule R 2000 max - Apr 1 0 1:00 S\nRule R 2000 max - Oct 1 0 0 S\nZone Z 1 R X 2010\n2 - Y\n",
	} {
		if x := compile(t, s); x.Foot != (comp.Foot{}) {
			t.Errorf("the foot of %q is %v", s, x.Foot)
		}
	}
	// A single one goes on, and changes nothing any more once the others have ended.
	x := compile(t, "Rule R 2000 max - Apr 1 0 1:00 S\nRule R 2000 2001 - Oct 1 0 0 W\nZone Z 0 R %s\n")
	want := []api.Tran{
		{At: utc(2000, 4, 1, 0, 0, 0), Off: 3600, Dst: true, Abbr: "S"},
		{At: utc(2000, 9, 30, 23, 0, 0), Abbr: "W"},
		{At: utc(2001, 4, 1, 0, 0, 0), Off: 3600, Dst: true, Abbr: "S"},
		{At: utc(2001, 9, 30, 23, 0, 0), Abbr: "W"},
		{At: utc(2002, 4, 1, 0, 0, 0), Off: 3600, Dst: true, Abbr: "S"},
	}
	if !slices.Equal(x.Trans, want) || x.First != (api.Tran{Abbr: "W"}) {
		t.Error("Compile is", x)
	}
}

// P10.2: the horizon is two years behind the greatest year of the last era's rules and of all UNTILs.
func TestHorizon(t *testing.T) {
	const ever = "Rule R 2000 max - Apr 1 0u 1:00 S\nRule R 1990 max - Oct 1 0u 0 W\n"
	for s, year := range map[string]int{
		"Zone Z 1 R X\n": 2003,
		"Rule R 2050 2060 - Jul 1 0u 0 Y\nZone Z 1 R X\n": 2063,
		"Zone Z 1 - X 1950\n1 R X\n":                      2003,
		"Zone Z 1 - X 2020\n1 R X\n":                      2023,
		"Zone Z 1 - X 1950\n1 - X 2020\n1 R X\n":          2023,
		"Zone Z 1 - X 2100 Dec 31 24:00\n1 R X\n":         2103,
		"Rule Q 2050 2060 - Jul 1 0u 0 Y\nRule Q 2070 max - Aug 1 0 0 -\nZone Z 1 Q X 1990\n1 R X\n": 2003,
		"Rule R 2100 only - Jul 1 0u 0 Y\nZone Z 1 R X\n":                                            2103,
	} {
		x := compile(t, ever+s)
		if x.Foot.From != utc(year, 4, 1, 0, 0, 0) {
			t.Errorf("the foot of %q begins at %d", s, x.Foot.From)
		}
		if last := x.Trans[len(x.Trans)-1]; last.At != utc(year-1, 10, 1, 0, 0, 0) {
			t.Errorf("Trans of %q end with %v", s, last)
		}
	}
	// The year's first firing is that by days, not by rules; its instant is by the save ahead of it.
	x := compile(t, "Rule R 2000 max - Oct 1 0 0:20 S\nRule R 2000 max - Apr 1 0 0:40 W\nZone Z 1 R X\n")
	if x.Foot.From != utc(2003, 4, 1, 0, 0, 0)-3600-1200 || x.Foot.A.Month != 10 || x.Foot.B.Month != 4 {
		t.Error("Foot is", x.Foot)
	}
	x = compile(t, "Rule R 2000 max - Jan Sun<=1 0s 0 S\nRule R 2000 max - Jun 1 0 0:40 W\nZone Z 1 R X\n")
	if x.Foot.From != utc(2002, 12, 29, 0, 0, 0)-3600 {
		t.Error("Foot is", x.Foot)
	}
	if x := compile(t, "Zone Z 1 - X\n"); len(x.Trans) != 0 || x.First != (api.Tran{Off: 3600, Abbr: "X"}) || x.Name != "Z" {
		t.Error("Compile is", x)
	}
}

// P10.2: an end at which clocks go on as they stood is none of Trans; nor is a firing that says what stood.
func TestTransDiffer(t *testing.T) {
	for s, want := range map[string][]api.Tran{
		"Zone Z 1 - X 1990\n1 - X 1991\n1 - X\n":          nil,
		"Zone Z 1 - X 1990\n2 - X 1991 Jan 1 0u\n2 - X\n": {{At: utc(1990, 1, 1, 0, 0, 0) - 3600, Off: 7200, Abbr: "X"}},
		"Zone Z 1 - X 1990 Jan 1 0u\n0 1:00 X\n":          {{At: utc(1990, 1, 1, 0, 0, 0), Off: 3600, Dst: true, Abbr: "X"}},
		"Zone Z 1 - X 1990 Jan 1 0u\n1 - Y\n":             {{At: utc(1990, 1, 1, 0, 0, 0), Off: 3600, Abbr: "Y"}},
		"Zone Z 0 1:00 X 1990 Jan 1 0u\n0:30 0:30 X\n":    nil,
		"Rule R 1990 1999 - Apr 1 0u 0 A\nRule R 1995 only - Oct 1 0u 0 B\nZone Z 1 R %s\n": {
			{At: utc(1995, 10, 1, 0, 0, 0), Off: 3600, Abbr: "B"}, {At: utc(1996, 4, 1, 0, 0, 0), Off: 3600, Abbr: "A"}},
		"Rule R 1990 1999 - Apr 1 0u 0 A\nRule R 1995 only - Oct 1 0u 0 B\nZone Z 1 R X\n": nil,
		// A firing just at an era's end counts in the era behind it, once.
		"Rule R 1990 only - Apr 1 0u 1:00 S\nZone Z 0 R X 1990 Apr 1 0u\n0 - X\n": nil,
		"Rule R 1990 only - Apr 1 0u 1:00 S\nZone Z 0 - X 1990 Apr 1 0u\n0 R X\n": {{At: utc(1990, 4, 1, 0, 0, 0), Off: 3600, Dst: true, Abbr: "X"}},
		"Rule R 1990 only - Apr 1 0u 1:00 S\nZone Z 0 R X 1990 Apr 1 0:00:01u\n0 - X\n": {
			{At: utc(1990, 4, 1, 0, 0, 0), Off: 3600, Dst: true, Abbr: "X"}, {At: utc(1990, 4, 1, 0, 0, 1), Abbr: "X"}},
		"Rule R 1990 only - Apr 1 0u 1:00 S\nZone Z 0 - X 1990 Mar 31 23:59:59u\n0 R X\n": {{At: utc(1990, 4, 1, 0, 0, 0), Off: 3600, Dst: true, Abbr: "X"}},
		// An era that begins in summer begins with its rules' state.
		"Rule R 1990 only - Apr 1 0u 1:00 S\nZone Z 0 - X 1990 Apr 2 0u\n0 R X\n": {{At: utc(1990, 4, 2, 0, 0, 0), Off: 3600, Dst: true, Abbr: "X"}},
	} {
		if x := compile(t, s); !slices.Equal(x.Trans, want) {
			t.Errorf("Trans of %q are %v, not %v", s, x.Trans, want)
		}
	}
}

// anyOn is a day of a month.
func anyOn(r *rand.Rand) string {
	day := []string{"Sun", "Mon", "Tue", "Wed", "Thu", "Fri", "Sat"}[r.Intn(7)]
	n := strconv.Itoa(r.Intn(31) + 1)
	return []string{n, "last" + day, day + ">=" + n, day + "<=" + n}[r.Intn(4)]
}

func anyAt(r *rand.Rand) string {
	return []string{"0", "1:00", "2:00", "24:00", "3:12:07"}[r.Intn(5)] + []string{"", "s", "u"}[r.Intn(3)]
}

func anyMonth(r *rand.Rand) string {
	return []string{"Jan", "Feb", "Mar", "Apr", "May", "Jun", "Jul", "Aug", "Sep", "Oct", "Nov", "Dec"}[r.Intn(12)]
}

// anyRules is some rules of a name: most often of summers and winters that take turns, else of anything.
func anyRules(r *rand.Rand, name string) string {
	s := ""
	y := 1800 + r.Intn(250)
	if r.Intn(3) > 0 {
		for n := r.Intn(4); n >= 0 && y < 2100; n-- {
			to := min(2100, y+r.Intn(50))
			end := strconv.Itoa(to)
			if n == 0 && r.Intn(4) > 0 {
				end = "max"
			}
			on := "Rule " + name + " " + strconv.Itoa(y) + " " + end + " - "
			spring, autumn := []string{"Feb", "Mar", "Apr", "May"}[r.Intn(4)], []string{"Aug", "Sep", "Oct", "Nov"}[r.Intn(4)]
			s += on + spring + " " + anyOn(r) + " " + anyAt(r) + " " + []string{"1:00", "0:30", "2:00"}[r.Intn(3)] + " S\n"
			if r.Intn(8) > 0 {
				s += on + autumn + " " + anyOn(r) + " " + anyAt(r) + " 0 " + []string{"-", "W"}[r.Intn(2)] + "\n"
			}
			y = to + 1
		}
		return s
	}
	for range r.Intn(4) + 1 {
		from := 1800 + r.Intn(301)
		to := []string{"max", "only", strconv.Itoa(from + r.Intn(2101-from))}[r.Intn(3)]
		s += "Rule " + name + " " + strconv.Itoa(from) + " " + to + " - " + anyMonth(r) + " " + anyOn(r) + " " + anyAt(r) + " " + []string{"0", "0", "1:00", "2:00", "0:00:01"}[r.Intn(5)] + " " + []string{"-", "A", "B"}[r.Intn(3)] + "\n"
	}
	return s
}

// anyZone is a zone, whose eras mostly end one behind the other.
func anyZone(r *rand.Rand, name string) string {
	s := "Zone " + name + " "
	y := 1800 + r.Intn(150)
	for n := r.Intn(5) * r.Intn(3); n >= 0; n-- {
		s += []string{"1", "0", "-3:30", "14", "-14", "5:53:28"}[r.Intn(6)]
		s += " " + []string{"-", "-", "1:00", "0:20", "A", "A", "B", "C"}[r.Intn(8)]
		s += " " + []string{"X", "L%sT", "%z", "G/H"}[r.Intn(4)]
		if n > 0 {
			for i, field := range []string{strconv.Itoa(y), anyMonth(r), anyOn(r), anyAt(r)} {
				if i == 0 || r.Intn(4) > 0 {
					s += " " + field
				} else {
					break
				}
			}
			y = min(2100, y+r.Intn(25)*min(1, r.Intn(10)))
		}
		s += "\n"
	}
	return s
}

// P10.1 to P10.4: many zones, against the chapter's words.
func TestMany(t *testing.T) {
	r := rand.New(rand.NewSource(10))
	counts := map[api.Errno]int{}
	for range 1500 {
		s := anyRules(r, "A") + anyRules(r, "B") + anyRules(r, "C") + anyZone(r, "Z1") + anyZone(r, "Z2")
		db := sourceOf(t, s)
		for _, z := range db.Zones {
			counts[checkZone(t, r, db, z)]++
		}
	}
	for _, e := range []api.Errno{api.OK, api.ErrOrder, api.ErrTail} {
		if counts[e] < 20 {
			t.Error("too few zones that are told", e, counts)
		}
	}
	checkZone(t, r, sourceOf(t, example), sourceOf(t, example).Zones[0])
	db := sourceOf(t, world)
	for _, z := range db.Zones {
		checkZone(t, r, db, z)
	}
}

// P10.2: as many rules and eras as there may be.
func TestMost(t *testing.T) {
	s := ""
	for i := range 16 {
		s += "Rule R 1800 2100 - " + []string{"Jan", "Feb", "Mar", "Apr", "May", "Jun", "Jul", "Aug", "Sep", "Oct", "Nov", "Dec"}[i%12] + " " + strconv.Itoa(i+1) + " 0 " + []string{"0", "1:00"}[i%2] + " L" + strconv.Itoa(i) + "\n"
	}
	s += "Zone Z "
	for i := range 11 {
		s += strconv.Itoa(i) + " R %s " + strconv.Itoa(1820+i*20) + "\n"
	}
	s += "12 R %s\n"
	db := sourceOf(t, s)
	if e := checkZone(t, rand.New(rand.NewSource(11)), db, db.Zones[0]); e != api.OK {
		t.Error("Compile is", e)
	}
	if x, _ := comp.Compile(db, db.Zones[0]); len(x.Trans) < 4800 {
		t.Error("Trans are", len(x.Trans))
	}
}

// P10.5: the order of zones and links changes no table.
func TestOrderOfZones(t *testing.T) {
	r := rand.New(rand.NewSource(12))
	for range 40 {
		rules := anyRules(r, "A") + anyRules(r, "B") + anyRules(r, "C")
		parts := []string{anyZone(r, "Z1"), anyZone(r, "Z2"), anyZone(r, "Z3"), "Link Z1 L1\n", "Link L1 L2\n"}
		tables := map[string]comp.Table{}
		for i := range 4 {
			s := rules + strings.Join(parts, "")
			if i%2 == 1 {
				s = strings.Join(parts, "") + rules
			}
			db := sourceOf(t, s)
			for _, z := range db.Zones {
				x, _ := comp.Compile(db, z)
				if was, ok := tables[z.Name]; ok && !sameTable(x, was) {
					t.Error("Compile of", z.Name, "is", x, "not", was)
				}
				tables[z.Name] = x
			}
			r.Shuffle(len(parts), func(i, j int) { parts[i], parts[j] = parts[j], parts[i] })
		}
	}
}

// Rule 1 of the document: what Parse never told ends without a panic, too, and an error has nothing beside it.
func TestAnythingEnds(t *testing.T) {
	odd := []int64{math.MinInt64, -1, 0, 3, 13, 1800, 2000, 2102, 3000, src.Forever, math.MaxInt64 - 1, math.MaxInt64}
	for _, n := range odd {
		for _, k := range odd {
			for _, on := range []when.On{{N: 1}, {Kind: int(k), Wd: n, N: n}} {
				at := when.At{Sec: n, Kind: byte(k)}
				rules := []src.Rule{
					{Name: "R", From: n, To: k, Month: 1, On: on, At: at, Save: n},
					{Name: "R", From: n, To: src.Forever, Month: 4, On: on, At: at, Save: k},
					{Name: "R", From: k, To: src.Forever, Month: 10, On: on, At: at},
					{Name: "", From: 2000, To: 2000, Month: 10, On: on},
				}
				eras := []src.Era{
					{Off: k, Rule: "R", Save: n, Until: src.Until{Year: n, Month: 3, On: on, At: at}},
					{Off: 0, Rule: "Q", Until: src.Until{Year: k, Month: k, On: on, At: at}},
					{Off: 0, Rule: "R", Format: "%s", Until: src.Until{Year: n}},
				}
				for i := range rules {
					for j := range eras {
						checkEnds(t, src.DB{Rules: rules[i:]}, src.Zone{Eras: eras[j:]}, n)
					}
				}
			}
		}
	}
	db := src.DB{}
	for range 17 {
		db.Rules = append(db.Rules, src.Rule{Name: "R", From: 1990, To: 1991, Month: 1, On: when.On{N: 1}})
	}
	// One rule more than there may be is told by each call.
	until := src.Until{Year: 1990, Month: 1, On: when.On{N: 1}}
	for _, eras := range [][]src.Era{{{Rule: "R"}}, {{Rule: "R", Until: until}, {}}} {
		z := src.Zone{Eras: eras}
		checkEnds(t, db, z, 0)
		_, e1 := comp.Compile(db, z)
		_, e2 := comp.Direct(db, z, 0)
		_, e3 := comp.Ends(db, z)
		if e1 != api.ErrSize || e2 != api.ErrSize || len(eras) == 2 && e3 != api.ErrSize {
			t.Error("of too many rules there is told", e1, e2, e3)
		}
	}
}

func checkEnds(t *testing.T, db src.DB, z src.Zone, at int64) {
	t.Helper()
	if x, e := comp.Compile(db, z); e != api.OK && !reflect.DeepEqual(x, comp.Table{}) {
		t.Error("Compile with an error is", x, e)
	}
	if l, e := comp.Ends(db, z); e != api.OK && len(l) != 0 {
		t.Error("Ends with an error is", l, e)
	}
	if x, e := comp.Direct(db, z, at); e != api.OK && x != (api.Tran{}) {
		t.Error("Direct with an error is", x, e)
	}
}

// Rules 4 and 5 of the document: no answer shares memory with another one, and what is handed in stays as it is.
func TestOwnMemory(t *testing.T) {
	db, kept := sourceOf(t, world), sourceOf(t, world)
	z := db.Zones[3]
	x, _ := comp.Compile(db, z)
	was, _ := comp.Compile(db, z)
	for i := range x.Trans {
		x.Trans[i] = api.Tran{}
	}
	_ = append(x.Trans, api.Tran{})
	if again, _ := comp.Compile(db, z); !reflect.DeepEqual(again, was) {
		t.Error("Compile shares memory", again)
	}
	ends, _ := comp.Ends(db, z)
	first := ends[0]
	ends[0] = 0
	_ = append(ends, 7)
	if again, _ := comp.Ends(db, z); again[0] != first || len(again) != 2 {
		t.Error("Ends shares memory", again)
	}
	comp.Direct(db, z, 0)
	if !reflect.DeepEqual(db, kept) {
		t.Error("what is handed in was changed")
	}
	// A table does not keep what was handed in.
	y, _ := comp.Compile(db, z)
	for i := range db.Rules {
		db.Rules[i] = src.Rule{}
	}
	for i := range z.Eras {
		z.Eras[i] = src.Era{}
	}
	if !reflect.DeepEqual(y, was) {
		t.Error("a table keeps what was handed in")
	}
}
