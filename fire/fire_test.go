package fire_test

import (
	"math"
	"math/rand"
	"reflect"
	"slices"
	"sort"
	"strconv"
	"testing"
	"time"

	"computus/api"
	"computus/fire"
	"computus/src"
	"computus/when"
)

// example is the rules of the document's own source.
const example = "Rule EU 1977 1980 - Apr Sun>=1 1:00u 1:00 S\n" +
	"Rule EU 1981 max - Mar lastSun 1:00u 1:00 S\n" +
	"Rule EU 1996 max - Oct lastSun 1:00u 0:00 -\n"

// rulesOf is the rules of a source that must be right.
func rulesOf(t *testing.T, s string) []src.Rule {
	t.Helper()
	db, line, e := src.Parse(s)
	if e != api.OK {
		t.Fatalf("Parse(%q) is %d, %d", s, line, e)
	}
	return db.Rules
}

// wantDay is the day that a rule says, looked for day by day with package time.
func wantDay(y, m int64, on when.On) int64 {
	at := time.Date(int(y), time.Month(m), int(on.N), 0, 0, 0, 0, time.UTC)
	step := 1
	switch on.Kind {
	case 0:
		return daysOf(at)
	case 1:
		at, step = time.Date(int(y), time.Month(m)+1, 0, 0, 0, 0, 0, time.UTC), -1
	case 3:
		step = -1
	}
	for int64(at.Weekday()) != on.Wd {
		at = at.AddDate(0, 0, step)
	}
	return daysOf(at)
}

// daysOf counts from January 1, 2000; instants are whole days here.
func daysOf(at time.Time) int64 {
	return (at.Unix() - time.Date(2000, 1, 1, 0, 0, 0, 0, time.UTC).Unix()) / 86400
}

// wantYear is the firings of a year, put in order by a sort that keeps rules in theirs.
func wantYear(l []src.Rule, y int64) []fire.Fire {
	var out []fire.Fire
	for _, r := range l {
		if r.From <= y && y <= r.To {
			out = append(out, fire.Fire{Day: wantDay(y, r.Month, r.On), Sec: r.At.Sec, Kind: r.At.Kind, Save: r.Save, Letter: r.Letter})
		}
	}
	sort.SliceStable(out, func(i, j int) bool {
		return out[i].Day < out[j].Day || out[i].Day == out[j].Day && out[i].Sec < out[j].Sec
	})
	return out
}

func wantInstant(f fire.Fire, off, save int64) int64 {
	at := time.Date(2000, 1, 1, 0, 0, 0, 0, time.UTC).Unix() + f.Day*86400 + f.Sec
	if f.Kind == 'u' {
		return at
	}
	if f.Kind == 's' {
		return at - off
	}
	return at - off - save
}

func wantRun(l []src.Rule, off, from, to int64) []fire.Fire {
	var out []fire.Fire
	save := int64(0)
	for y := from; y <= to; y++ {
		for _, f := range wantYear(l, y) {
			f.At = wantInstant(f, off, save)
			save = f.Save
			out = append(out, f)
		}
	}
	return out
}

// wantState goes through all firings, of which all holds those of all years
// that count, from the first one on.
func wantState(all []fire.Fire, at int64) (int64, string) {
	save, letter := int64(0), ""
	for _, f := range all {
		if f.Save == 0 {
			letter = f.Letter
			break
		}
	}
	for _, f := range all {
		if f.At <= at {
			save, letter = f.Save, f.Letter
		}
	}
	return save, letter
}

func same(a, b []fire.Fire) bool { return slices.Equal(a, b) }

const utc1800 = -5364662400 // January 1, 1800

// anyOn is a day of a month, often one that is near its ends.
func anyOn(r *rand.Rand) when.On {
	n := []int64{1, 2, 15, 28, 29, 30, 31, r.Int63n(31) + 1}[r.Intn(8)]
	switch kind := r.Intn(4); kind {
	case 0:
		return when.On{N: n}
	case 1:
		return when.On{Kind: 1, Wd: r.Int63n(7)}
	default:
		return when.On{Kind: kind, Wd: r.Int63n(7), N: n}
	}
}

// anyRule is a rule as a source may have it, often at the same time as others.
func anyRule(r *rand.Rand) src.Rule {
	from := []int64{1800, 1801, 1970, 2000, 2099, 2100, 1800 + r.Int63n(301)}[r.Intn(7)]
	to := []int64{from, src.Forever, min(2100, from+r.Int63n(40))}[r.Intn(3)]
	return src.Rule{
		Name:   "R",
		From:   from,
		To:     to,
		Month:  []int64{1, 2, 12, r.Int63n(12) + 1}[r.Intn(4)],
		On:     anyOn(r),
		At:     when.At{Sec: []int64{0, 3600, 7200, 86400, r.Int63n(86401)}[r.Intn(5)], Kind: "wsu"[r.Intn(3)]},
		Save:   []int64{0, 0, 3600, 7200, r.Int63n(7201)}[r.Intn(5)],
		Letter: []string{"", "S", "D", strconv.Itoa(r.Intn(100))}[r.Intn(4)],
	}
}

func anyRules(r *rand.Rand) []src.Rule {
	var l []src.Rule
	for range r.Intn(api.MaxRules + 1) {
		l = append(l, anyRule(r))
	}
	return l
}

func anyOff(r *rand.Rand) int64 {
	return []int64{0, 3600, -50400, 50400, r.Int63n(100801) - 50400}[r.Intn(5)]
}

// The document's example.
func TestExample(t *testing.T) {
	l := rulesOf(t, example)
	want := []fire.Fire{
		{Day: 8856, Sec: 3600, Kind: 'u', Save: 3600, Letter: "S", At: 1711846800},
		{Day: 9066, Sec: 3600, Kind: 'u', Save: 0, Letter: "", At: 1729990800},
	}
	if got, e := fire.Run(l, 3600, 2024, 2024); !same(got, want) || e != api.OK {
		t.Error("Run is", got, e)
	}
	if save, letter, e := fire.State(l, 3600, 1711846800); save != 3600 || letter != "S" || e != api.OK {
		t.Error("State is", save, letter, e)
	}
	if save, letter, e := fire.State(l, 3600, 1711846799); save != 0 || letter != "" || e != api.OK {
		t.Error("State is", save, letter, e)
	}
}

// P9.1: just the name, in order.
func TestOf(t *testing.T) {
	l := []src.Rule{{Name: "A", From: 1}, {Name: "a", From: 2}, {Name: "AB", From: 3}, {Name: "A", From: 4}, {Name: "", From: 5}, {Name: "A", From: 1}}
	for name, want := range map[string][]int64{"A": {1, 4, 1}, "a": {2}, "AB": {3}, "": {5}, "B": nil, "A ": nil} {
		var got []int64
		for _, r := range fire.Of(l, name) {
			if r.Name != name {
				t.Error("Of", name, "tells", r)
			}
			got = append(got, r.From)
		}
		if !slices.Equal(got, want) {
			t.Error("Of", name, "is", got)
		}
	}
	if got := fire.Of(nil, "A"); len(got) != 0 {
		t.Error("Of nil is", got)
	}
	full := rulesOf(t, example)
	if got := fire.Of(full, "EU"); !slices.Equal(got, full) {
		t.Error("Of is", got)
	}
}

// P9.1: the greatest year that is named, and 0 of none.
func TestLast(t *testing.T) {
	const ever = src.Forever
	for _, c := range []struct {
		want  int64
		years [][2]int64
	}{
		{0, nil},
		{1800, [][2]int64{{1800, 1800}}},
		{1800, [][2]int64{{1800, ever}}},
		{1990, [][2]int64{{1980, 1990}}},
		{1990, [][2]int64{{1980, 1990}, {1985, ever}}},
		{1995, [][2]int64{{1995, ever}, {1980, 1990}}},
		{1996, [][2]int64{{1990, ever}, {1980, 1981}, {1996, ever}, {1995, 1995}}},
		{2100, [][2]int64{{1800, 2100}, {1990, ever}}},
		{2100, [][2]int64{{1990, 1991}, {2100, ever}}},
		{ever - 1, [][2]int64{{1990, ever - 1}}},
		{ever + 1, [][2]int64{{1990, ever + 1}}},
		{-3, [][2]int64{{-5, -3}, {-4, ever}}},
	} {
		var l []src.Rule
		for _, y := range c.years {
			l = append(l, src.Rule{From: y[0], To: y[1]})
		}
		if got := fire.Last(l); got != c.want {
			t.Error("Last of", c.years, "is", got)
		}
	}
}

// P9.1: the year in UTC, and its ends.
func TestYearAt(t *testing.T) {
	first := time.Date(api.FirstYear, 1, 1, 0, 0, 0, 0, time.UTC).Unix()
	behind := time.Date(api.LastYear+1, 1, 1, 0, 0, 0, 0, time.UTC).Unix()
	check := func(at int64) {
		want := int64(time.Unix(at, 0).UTC().Year())
		if at < first {
			want = api.FirstYear
		}
		if at >= behind {
			want = api.LastYear
		}
		if got := fire.YearAt(at); got != want {
			t.Error("YearAt", at, "is", got, "not", want)
		}
	}
	for _, at := range []int64{math.MinInt64, math.MinInt64 + 1, -1 << 62, -1 << 50, first - 86401, first - 86400, first - 1, first, first + 1,
		behind - 1, behind, behind + 1, behind + 86400, 1 << 50, 1 << 62, math.MaxInt64 - 1, math.MaxInt64, -86401, -86400, -86399, -1, 0, 1, 86399, 86400} {
		check(at)
	}
	for y := api.FirstYear; y <= api.LastYear; y += 7 {
		at := time.Date(y, 1, 1, 0, 0, 0, 0, time.UTC).Unix()
		for d := int64(-1); d <= 1; d++ {
			check(at + d)
		}
	}
	r := rand.New(rand.NewSource(91))
	for range 100000 {
		check(first + r.Int63n(behind-first))
	}
}

// P9.1: each kind of clock.
func TestInstant(t *testing.T) {
	r := rand.New(rand.NewSource(92))
	for kind := range 256 {
		for range 50 {
			f := fire.Fire{Day: r.Int63n(1<<33) - 1<<32, Sec: r.Int63n(200001) - 100000, Kind: byte(kind)}
			off, save := r.Int63n(200001)-100000, r.Int63n(20001)-10000
			if got, want := fire.Instant(f.Day, f.Sec, f.Kind, off, save), wantInstant(f, off, save); got != want {
				t.Error("Instant", f, off, save, "is", got, "not", want)
			}
		}
	}
	if got := fire.Instant(-10957, 0, 'u', 5, 7); got != 0 {
		t.Error("Instant is", got)
	}
	if got := fire.Instant(0, 3600, 'w', 3600, 60); got != 946684740 {
		t.Error("Instant is", got)
	}
}

// P9.2, P9.5: many rules, in the years that they name and around.
func TestYear(t *testing.T) {
	r := rand.New(rand.NewSource(93))
	for range 3000 {
		l := anyRules(r)
		years := []int64{api.FirstYear + 1, 0, 1799, 1800, 1801, 1970, 2000, 2099, 2100, 2101, 2400, api.LastYear - 1}
		if len(l) > 0 {
			one := l[r.Intn(len(l))]
			years = append(years, one.From-1, one.From, one.From+1, 1790+r.Int63n(330))
			if one.To != src.Forever {
				years = append(years, one.To-1, one.To, one.To+1)
			}
		}
		for _, y := range years {
			got, e := fire.Year(l, y)
			if want := wantYear(l, y); !same(got, want) || e != api.OK {
				t.Fatal("Year", l, y, "is", got, e, "not", want)
			}
			checkOrder(t, l, got)
		}
	}
}

// checkOrder: firings are in order, and each one's save and letters are a rule's.
func checkOrder(t *testing.T, l []src.Rule, fires []fire.Fire) {
	t.Helper()
	for i, f := range fires {
		if i > 0 && (f.Day < fires[i-1].Day || f.Day == fires[i-1].Day && f.Sec < fires[i-1].Sec) {
			t.Error("firings are not in order", fires)
		}
		if !slices.ContainsFunc(l, func(r src.Rule) bool { return r.Save == f.Save && r.Letter == f.Letter }) {
			t.Error("a firing is no rule's", f)
		}
	}
}

// P9.2: of the same days and seconds the order is that of the rules, whatever else they say.
func TestYearKeepsRulesInOrder(t *testing.T) {
	r := rand.New(rand.NewSource(94))
	for range 200 {
		var l []src.Rule
		for i := range api.MaxRules {
			rule := src.Rule{Name: "R", From: 2000, To: src.Forever, Month: 3, On: when.On{N: 31}, At: when.At{Sec: int64(r.Intn(2)), Kind: "wsu"[r.Intn(3)]}}
			if r.Intn(2) == 0 {
				rule.Month, rule.On = 4, when.On{Kind: 3, Wd: 0, N: 1} // March 31, 2024
			}
			rule.Save, rule.Letter = int64(r.Intn(7201)), string(rune('A'+i))
			l = append(l, rule)
		}
		got, e := fire.Year(l, 2024)
		if want := wantYear(l, 2024); len(got) != api.MaxRules || !same(got, want) || e != api.OK {
			t.Fatal("Year is", got, e, "not", want)
		}
	}
}

// P9.2: a firing stays one of its year, even if its day is of another one.
func TestYearBesideItself(t *testing.T) {
	l := rulesOf(t, "Rule R 2000 only - Dec Sun>=31 24:00 1:00 A\nRule R 2001 only - Jan Sun<=1 0 0 B\nRule R 2001 only - Feb 31 0 0 C\nRule R 2001 only - Mar 1 0 0 D\n")
	for y, want := range map[int64][]fire.Fire{
		1999: nil,
		2000: {{Day: 365, Sec: 86400, Kind: 'w', Save: 3600, Letter: "A"}},
		2001: {{Day: 365, Kind: 'w', Letter: "B"}, {Day: 366 + 59, Kind: 'w', Letter: "D"}, {Day: 366 + 61, Kind: 'w', Letter: "C"}},
		2002: nil,
	} {
		if got, e := fire.Year(l, y); !same(got, want) || e != api.OK {
			t.Error("Year", y, "is", got, e)
		}
	}
	// Instants need not rise: A is at the end of December 31, B at its beginning.
	got, e := fire.Run(l, 0, 2000, 2001)
	if len(got) != 4 || got[0].At <= got[1].At || e != api.OK {
		t.Fatal("Run is", got, e)
	}
	if save, letter, e := fire.State(l, 0, got[1].At); save != 0 || letter != "B" || e != api.OK {
		t.Error("State is", save, letter, e)
	}
	if save, letter, e := fire.State(l, 0, got[0].At); save != 0 || letter != "B" || e != api.OK {
		t.Error("State is", save, letter, e)
	}
}

// many is so many rules that each fire for ever.
func many(n int) []src.Rule {
	var l []src.Rule
	for i := range n {
		l = append(l, src.Rule{Name: "R", From: 1800, To: src.Forever, Month: int64(i%12) + 1, On: when.On{N: int64(i) + 1}, At: when.At{Kind: 'u'}, Letter: "x"})
	}
	return l
}

// P9.2: errors, and which of them is told.
func TestYearErrors(t *testing.T) {
	const range1, size = api.ErrRange, api.ErrSize
	for _, c := range []struct {
		n    int
		y    int64
		want api.Errno
	}{
		{0, api.FirstYear, range1}, {0, api.FirstYear + 1, api.OK}, {0, api.LastYear - 1, api.OK}, {0, api.LastYear, range1},
		{0, math.MinInt64, range1}, {0, math.MaxInt64, range1}, {3, api.FirstYear, range1}, {3, api.LastYear, range1},
		{16, 2000, api.OK}, {16, api.LastYear - 1, api.OK}, {17, 2000, size}, {17, 1799, size}, {1000, api.FirstYear + 1, size}, {17, api.LastYear - 1, size},
		{17, api.FirstYear, range1}, {17, api.LastYear, range1},
	} {
		got, e := fire.Year(many(c.n), c.y)
		if e != c.want || e != api.OK && len(got) != 0 {
			t.Error("Year of", c.n, "rules in", c.y, "is", got, e)
		}
	}
	if got, e := fire.Year(many(16), 2000); len(got) != 16 || e != api.OK {
		t.Error("Year is", got, e)
	}
}

// P9.3: many rules, over many years.
func TestRun(t *testing.T) {
	r := rand.New(rand.NewSource(95))
	for range 400 {
		l, off := anyRules(r), anyOff(r)
		from := []int64{1800, 1795, 1970, 2090, api.FirstYear + 1, api.LastYear - 40}[r.Intn(6)]
		to := from + r.Int63n(39)
		got, e := fire.Run(l, off, from, to)
		if want := wantRun(l, off, from, to); !same(got, want) || e != api.OK {
			t.Fatal("Run", l, off, from, to, "is", got, e, "not", want)
		}
	}
	l := many(16)
	got, e := fire.Run(l, 3600, 1800, 2102)
	if want := wantRun(l, 3600, 1800, 2102); len(got) != 16*303 || !same(got, want) || e != api.OK {
		t.Error("Run of", len(got), "firings", e)
	}
}

// P9.3: the first firing of a run has the save 0 ahead of it, the others that of the one ahead, of other years too.
func TestRunSaves(t *testing.T) {
	l := rulesOf(t, "Rule R 2000 max - Jan 1 1:00w 2:00 A\nRule R 2000 max - Jul 1 1:00w 1:00 B\n")
	day := func(y int, m time.Month) int64 { return time.Date(y, m, 1, 1, 0, 0, 0, time.UTC).Unix() }
	for from, want := range map[int64][]int64{
		2000: {day(2000, 1), day(2000, 7) - 7200, day(2001, 1) - 3600, day(2001, 7) - 7200},
		2001: {day(2001, 1), day(2001, 7) - 7200},
		1999: {day(2000, 1), day(2000, 7) - 7200, day(2001, 1) - 3600, day(2001, 7) - 7200},
	} {
		var got []int64
		fires, e := fire.Run(l, 0, from, 2001)
		for _, f := range fires {
			got = append(got, f.At)
		}
		if !slices.Equal(got, want) || e != api.OK {
			t.Error("Run from", from, "is", got, e, "not", want)
		}
	}
}

// P9.3: errors, which of them is told, and how many years may be.
func TestRunErrors(t *testing.T) {
	const first, last = api.FirstYear + 1, api.LastYear - 1
	const range1, size = api.ErrRange, api.ErrSize
	for _, c := range []struct {
		n        int
		from, to int64
		want     api.Errno
	}{
		{1, 1000, 1599, api.OK}, {1, 1000, 1600, range1}, {1, 1001, 1600, api.OK}, {1, 1000, 1601, range1},
		{1, first, first, api.OK}, {1, first - 1, first, range1}, {1, first, first + 599, api.OK}, {1, first, first + 600, range1},
		{1, last, last, api.OK}, {1, last, last + 1, range1}, {1, last - 599, last, api.OK}, {1, last - 600, last, range1},
		{1, first, last, range1}, {1, last, first, api.OK}, {1, 2000, 1999, api.OK}, {1, 2000, 1000, api.OK},
		{1, first, first - 1, range1}, {1, last + 1, last, range1}, {1, last + 1, 2000, range1},
		{1, math.MinInt64, math.MaxInt64, range1}, {1, math.MaxInt64, math.MinInt64, range1}, {1, math.MinInt64, math.MinInt64, range1}, {1, 2000, math.MinInt64, range1},
		{16, 2000, 2001, api.OK}, {17, 2000, 2001, size}, {17, 2001, 2000, size}, {17, first - 1, 2000, size}, {17, 1000, 1600, size}, {17, 2000, last + 1, size},
		{0, 1000, 1599, api.OK}, {0, 1000, 1600, range1},
	} {
		got, e := fire.Run(many(c.n), 0, c.from, c.to)
		if e != c.want || e != api.OK && len(got) != 0 {
			t.Error("Run of", c.n, "rules from", c.from, "to", c.to, "is", len(got), e)
		}
		if c.to < c.from && len(got) != 0 {
			t.Error("Run of no years is", got)
		}
	}
	if got, e := fire.Run(many(1), 0, 1900, 2499); len(got) != 600 || e != api.OK {
		t.Error("Run is", len(got), e)
	}
}

// checkState holds State against a list of all firings up to a year behind at.
func checkState(t *testing.T, l []src.Rule, off, at int64, all []fire.Fire) {
	t.Helper()
	save, letter, e := fire.State(l, off, at)
	wantSave, wantLetter := wantState(all, at)
	if save != wantSave || letter != wantLetter || e != api.OK {
		t.Fatal("State", l, off, at, "is", save, letter, e, "not", wantSave, wantLetter)
	}
}

// P9.4, P9.6: many rules, whose instants need not rise, at each of their instants and just around.
func TestState(t *testing.T) {
	r := rand.New(rand.NewSource(96))
	for range 150 {
		l, off := anyRules(r), anyOff(r)
		all := wantRun(l, off, 1800, 2130)
		latest := time.Date(2128, 12, 31, 0, 0, 0, 0, time.UTC).Unix()
		for _, at := range []int64{math.MinInt64, -1 << 50, -5400000000, utc1800, utc1800 - 1, 0, 1711846800, latest} {
			checkState(t, l, off, at, all)
		}
		for range 60 {
			if len(all) == 0 {
				break
			}
			f := all[r.Intn(len(all))]
			if r.Intn(4) == 0 {
				f = all[r.Intn(min(len(all), 3))]
			}
			for d := int64(-1); d <= 1; d++ {
				checkState(t, l, off, min(f.At+d, latest), all)
			}
			checkState(t, l, off, min(f.At+r.Int63n(1<<27)-1<<26, latest), all)
		}
	}
}

// P9.4: instants far behind all years that are named, up to the calendar's end and behind it.
func TestStateFar(t *testing.T) {
	r := rand.New(rand.NewSource(97))
	end := time.Date(api.LastYear, 1, 1, 0, 0, 0, 0, time.UTC).Unix()
	for i, s := range []string{
		"Rule R 1981 max - Mar lastSun 1:00u 1:00 S\nRule R 1996 max - Oct lastSun 2:00w 0 -\nRule R 1970 2100 - Jul 4 0 2:00 X\n",
		"Rule R 1981 max - Dec Sun>=31 24:00w 2:00 A\nRule R 1990 max - Jan Sun<=1 0:00w 0 B\nRule R 1900 1910 - Jan 1 0 0 C\n",
	} {
		l, off := rulesOf(t, s), int64(i)*-50400
		all := wantRun(l, off, 1800, api.LastYear-1)
		times := []int64{math.MaxInt64, 1 << 50, end - 1, end, end + 1, end + 366*86400, end - 366*86400, end + 6*86400, end + 8*86400}
		for range 40 {
			f := all[r.Intn(len(all))]
			if r.Intn(2) == 0 {
				f = all[len(all)-1-r.Intn(4)]
			}
			times = append(times, f.At-1, f.At, f.At+1, r.Int63n(end))
		}
		for _, at := range times {
			checkState(t, l, off, at, all)
		}
	}
}

// P9.4: rules that end long ago, at instants that are far behind.
func TestStateOfTheEnded(t *testing.T) {
	l := rulesOf(t, "Rule R 1900 1950 - Apr 1 0 1:00 S\nRule R 1900 1949 - Oct 1 0 0 W\n")
	for _, at := range []int64{0, 1 << 40, 9000000000000, math.MaxInt64} {
		if save, letter, e := fire.State(l, 0, at); save != 3600 || letter != "S" || e != api.OK {
			t.Error("State at", at, "is", save, letter, e)
		}
	}
}

// P9.4: ahead of all firings it is the first letters of all firings without a save, of whichever year.
func TestFirstLetters(t *testing.T) {
	for s, want := range map[string]string{
		"":                                   "",
		"Rule R 1900 max - Apr 1 0 1:00 S\n": "",
		"Rule R 1900 max - Apr 1 0 1:00 S\nRule R 2100 only - Oct 1 0 0 W\n":                                          "W",
		"Rule R 1990 max - Apr 1 0 0 A\nRule R 1950 1960 - Oct 1 0 0 B\nRule R 1950 only - Sep 30 0 0 C\n":            "C",
		"Rule R 1950 max - Apr 1 0 0 A\nRule R 1950 1960 - Apr 1 0 0 B\n":                                             "A",
		"Rule R 1950 max - Apr 1 0:01 0 A\nRule R 1950 1960 - Apr 1 0 0 B\n":                                          "B",
		"Rule R 1950 max - Apr 1 0 0 -\nRule R 1951 1960 - Apr 1 0 0 B\n":                                             "",
		"Rule R 1951 max - Jan Sun<=1 0 0 A\nRule R 1950 only - Dec Sun>=31 0 0 B\nRule R 1800 max - Jan 1 0 1 DST\n": "B",
	} {
		l := rulesOf(t, s)
		for _, at := range []int64{math.MinInt64, -1 << 50, -6000000000, -5400000000} {
			if save, letter, e := fire.State(l, 0, at); save != 0 || letter != want || e != api.OK {
				t.Errorf("State of %q at %d is %d, %q, %d", s, at, save, letter, e)
			}
		}
	}
}

// P9.4: the year behind that of the instant counts, and the one ahead of all rules.
func TestStateAtTheEndsOfYears(t *testing.T) {
	// Sun<=1 of January 1800 is December 29, 1799; by the clocks of a zone 14 hours ahead it begins a day earlier.
	l := rulesOf(t, "Rule R 1800 max - Jan Sun<=1 0:00 1:00 S\nRule R 1800 max - Jul 1 0:00 0 W\n")
	first := time.Date(1799, 12, 29, 0, 0, 0, 0, time.UTC).Unix() - 50400
	for at, want := range map[int64]string{first - 1: "W", first: "S", first + 1: "S"} {
		if _, letter, e := fire.State(l, 50400, at); letter != want || e != api.OK {
			t.Error("State at", at, "is", letter, e)
		}
	}
	// December 31, 1995, is a Sunday; its end, in a zone 14 hours behind UTC, is in 1996.
	l = rulesOf(t, "Rule R 1990 max - Dec Sun>=31 24:00 1:00 S\nRule R 1990 max - Jul 1 0:00 0 W\n")
	at := time.Date(1996, 1, 1, 0, 0, 0, 0, time.UTC).Unix() + 50400
	for d, want := range map[int64]string{-1: "W", 0: "S"} {
		if _, letter, e := fire.State(l, -50400, at+d); letter != want || e != api.OK {
			t.Error("State at", at+d, "is", letter, e)
		}
	}
}

// P9.4: errors.
func TestStateErrors(t *testing.T) {
	for _, at := range []int64{math.MinInt64, 0, math.MaxInt64} {
		if save, letter, e := fire.State(many(17), 0, at); save != 0 || letter != "" || e != api.ErrSize {
			t.Error("State is", save, letter, e)
		}
		if save, letter, e := fire.State(many(16), 0, at); save != 0 || letter != "x" || e != api.OK {
			t.Error("State is", save, letter, e)
		}
		if save, letter, e := fire.State(nil, 0, at); save != 0 || letter != "" || e != api.OK {
			t.Error("State of no rules is", save, letter, e)
		}
	}
}

// P9.4: too many rules are told, whether one of them fires or not.
func TestStateOfTooMany(t *testing.T) {
	shifted, ended := many(17), many(17)
	for i := range shifted {
		shifted[i].Save = 3600
		ended[i].To = 1900
	}
	ended[3].Save = 1
	shifted[3].Save = 0
	for _, l := range [][]src.Rule{shifted, ended} {
		for _, at := range []int64{math.MinInt64, -1 << 50, utc1800 - 1, utc1800, 0, math.MaxInt64} {
			if save, letter, e := fire.State(l, 0, at); save != 0 || letter != "" || e != api.ErrSize {
				t.Error("State is", save, letter, e)
			}
		}
	}
}

// Rules that no source has: a day that can not be is told as when tells it.
func TestWrongRules(t *testing.T) {
	l := []src.Rule{{From: 1990, To: 2000, Month: 13, On: when.On{N: 1}}}
	if got, e := fire.Year(l, 1995); len(got) != 0 || e != api.ErrArg {
		t.Error("Year is", got, e)
	}
	if got, e := fire.Run(l, 0, 1980, 1995); len(got) != 0 || e != api.ErrArg {
		t.Error("Run is", got, e)
	}
	for _, at := range []int64{math.MinInt64, 1 << 33} {
		if save, letter, e := fire.State(l, 0, at); save != 0 || letter != "" || e != api.ErrArg {
			t.Error("State is", save, letter, e)
		}
	}
}

// P9.6: where instants rise, the state is a firing's from its instant on up to the next one's.
func TestStateStays(t *testing.T) {
	l := rulesOf(t, example)
	all, e := fire.Run(l, 3600, 1800, 2102)
	if e != api.OK {
		t.Fatal(e)
	}
	for i, f := range all[:len(all)-1] {
		next := all[i+1].At
		if next <= f.At {
			t.Fatal("instants do not rise", f, next)
		}
		for _, at := range []int64{f.At, f.At + 1, (f.At + next) / 2, next - 1} {
			if save, letter, e := fire.State(l, 3600, at); save != f.Save || letter != f.Letter || e != api.OK {
				t.Error("State at", at, "is", save, letter, e, "not", f)
			}
		}
	}
}

// Rule 1 of the document: rules that no source has end without a panic, too.
func TestAnythingEnds(t *testing.T) {
	odd := []int64{math.MinInt64, math.MinInt64 + 1, -1, 0, 13, 2000, 1 << 31, math.MaxInt64}
	for _, n := range odd {
		for _, k := range odd {
			on := when.On{N: 1}
			if k == 13 {
				on = when.On{Kind: int(n), Wd: n, N: n}
			}
			l := []src.Rule{
				{From: n, To: k, Month: 1, On: on, At: when.At{Sec: n, Kind: byte(k)}, Save: n},
				{From: k, To: n, Month: k, On: on, At: when.At{Sec: k}, Save: 0},
				{From: k, To: src.Forever, Month: 1, On: on, At: when.At{Sec: k}, Save: n},
			}
			for i := range l {
				one := l[i : i+1]
				fire.Last(one)
				fire.Year(one, 2000)
				fire.Run(one, n, 1990, 2000)
				if _, _, e := fire.State(one, n, 1<<33); e != api.OK {
					if save, letter, _ := fire.State(one, n, 1<<33); save != 0 || letter != "" {
						t.Error("State with an error is", save, letter)
					}
				}
			}
			fire.Instant(n, k, 'w', n, k)
		}
	}
}

// Rules 4 and 5 of the document: no answer shares memory with another one, and what is handed in stays as it is.
func TestOwnMemory(t *testing.T) {
	l := rulesOf(t, example)
	kept := slices.Clone(l)
	named := fire.Of(l, "EU")
	named[0].Name, named = "x", append(named, src.Rule{})
	if !slices.Equal(l, kept) || len(named) != 4 {
		t.Error("Of shares memory", l)
	}
	part := fire.Of(l[:2], "EU")
	_ = append(part, src.Rule{Name: "x"})
	if !slices.Equal(l, kept) {
		t.Error("Of shares memory behind its list", l)
	}
	calls := map[string]func() []fire.Fire{
		"Year": func() []fire.Fire { f, _ := fire.Year(l, 2024); return f },
		"Run":  func() []fire.Fire { f, _ := fire.Run(l, 3600, 2020, 2024); return f },
	}
	for name, call := range calls {
		got, want := call(), call()
		for i := range got {
			got[i] = fire.Fire{Day: 1}
		}
		_ = append(got, fire.Fire{Day: 2})
		if again := call(); !reflect.DeepEqual(again, want) {
			t.Error(name, "shares memory", again)
		}
	}
	fire.State(l, 3600, 0)
	fire.Last(l)
	if !slices.Equal(l, kept) {
		t.Error("what is handed in was changed", l)
	}
}
