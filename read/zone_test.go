package read_test

import (
	"math"
	"math/rand"
	"reflect"
	"regexp"
	"strings"
	"testing"
	"time"

	"computus/api"
	"computus/comp"
	"computus/foot"
	"computus/names"
	"computus/read"
	"computus/zone"
)

// shorts is the names that everybody knows, in seconds.
func shorts() map[string]int64 {
	return map[string]int64{"UTC": 0, "GMT": 0, "EST": -18000, "EDT": -14400, "CST": -21600, "CDT": -18000, "MST": -25200, "MDT": -21600, "PST": -28800, "PDT": -25200,
		"CET": 3600, "CEST": 7200, "BST": 3600, "EET": 7200, "EEST": 10800, "MSK": 10800, "IST": 19800, "JST": 32400}
}

// secondsOf is a stamp's, since 1970.
func secondsOf(t api.Stamp) int64 {
	sec := t.U / micro
	if t.U%micro < 0 {
		sec--
	}
	return sec + since1970
}

// stretches is how clocks stand from each instant on, of a table, near some seconds; the first one for ever back.
func stretches(t *testing.T, z comp.Table, sec int64) []api.Tran {
	t.Helper()
	l := append([]api.Tran{z.First}, z.Trans...)
	y := int64(time.Unix(sec, 0).UTC().Year())
	if !z.Foot.Has {
		return l
	}
	for y := max(y-2, int64(time.Unix(z.Foot.From, 0).UTC().Year())-1); y <= int64(time.Unix(sec, 0).UTC().Year())+2; y++ {
		both, e := foot.Year(z.Foot, y)
		if e != api.OK {
			t.Fatal("Year", y, e)
		}
		for _, x := range both {
			if x.At >= z.Foot.From {
				l = append(l, x)
			}
		}
	}
	return l
}

// readings is how clocks stand whenever they say some seconds.
func readings(t *testing.T, z comp.Table, sec int64) []api.Tran {
	t.Helper()
	var out []api.Tran
	l := stretches(t, z, sec)
	for i, x := range l {
		at := sec - x.Off
		if (i == 0 || at >= x.At) && (i+1 == len(l) || at < l[i+1].At) {
			out = append(out, x)
		}
	}
	return out
}

// instantOf is when clocks say so.
func instantOf(t *testing.T, z comp.Table, l api.Stamp) (api.Stamp, api.Errno) {
	t.Helper()
	sec := secondsOf(l)
	if all := readings(t, z, sec); len(all) > 0 {
		return moved(l, all[0].Off)
	}
	at, how, e := zone.Instant(z, sec)
	if how != zone.Never || e != api.OK {
		t.Fatal("Instant", z.Name, l, at, how, e)
	}
	return moved(l, sec-at)
}

// zoneOf is what Zone must tell of what can be and has no Inf.
func zoneOf(t *testing.T, s string, env read.Env, l api.Stamp) (api.Stamp, api.Errno) {
	t.Helper()
	if strings.HasPrefix(s, "+") || strings.HasPrefix(s, "-") {
		sec, e := offsetOf(s)
		if e != api.OK {
			return api.Stamp{}, e
		}
		return moved(l, sec)
	}
	if s == "z" || s == "Z" {
		return l, api.OK
	}
	for _, x := range readings(t, env.Zone, secondsOf(l)) {
		if small(x.Abbr) == small(s) {
			return moved(l, x.Off)
		}
	}
	for name, sec := range shorts() {
		if small(name) == small(s) {
			return moved(l, sec)
		}
	}
	z, e := env.Book.Find(s)
	if e != api.OK {
		return api.Stamp{}, api.ErrZone
	}
	return instantOf(t, z, l)
}

// ahead is the forms of an offset.
var ahead = regexp.MustCompile(`^[+-](?:(\d{1,2})|(\d\d)(\d\d)|(\d{1,2}):(\d\d)(?::(\d\d))?)$`)

// offsetOf is the seconds of a text with a sign.
func offsetOf(s string) (int64, api.Errno) {
	l := ahead.FindStringSubmatch(s)
	if l == nil {
		return 0, api.ErrLiteral
	}
	h, m, sec := number(l[1])+number(l[2])+number(l[4]), number(l[3])+number(l[5]), number(l[6])
	sum := h*3600 + m*60 + sec
	if m > 59 || sec > 59 || sum > 57599 {
		return 0, api.ErrRange
	}
	if s[0] == '-' {
		sum = -sum
	}
	return sum, api.OK
}

func checkZone(t *testing.T, s string, env read.Env, l, want api.Stamp, e api.Errno) {
	t.Helper()
	if got, f := read.Zone(s, env, l); got != want || f != e {
		t.Fatalf("Zone(%q, %q, %v) is %v, %d, not %v, %d", s, env.Zone.Name, l, got, f, want, e)
	}
}

// P18.5: the short names, and no others.
func TestAbbr(t *testing.T) {
	for name, sec := range shorts() {
		for _, s := range []string{name, strings.ToLower(name), name[:1] + strings.ToLower(name[1:])} {
			if got, ok := read.Abbr(s); got != sec || !ok {
				t.Error("Abbr", s, got, ok)
			}
		}
		for _, s := range []string{" " + name, name + " ", name[:2], name[2:], name + "X", name + "\x00", "X" + name} {
			if got, ok := read.Abbr(s); got != 0 || ok {
				t.Error("Abbr", s, got, ok)
			}
		}
	}
	for _, s := range []string{"", "Z", "z", "WET", "UT", "+01", "A", "Europe/Berlin", "\xff", "CESTT", "ſt", "EſT", "MSK"[:2] + "\u212a", strings.Repeat("UTC", 5000)} {
		if got, ok := read.Abbr(s); got != 0 || ok {
			t.Error("Abbr", s, got, ok)
		}
	}
}

// P18.4: in which order a name is asked.
func TestZoneOrder(t *testing.T) {
	env := berlin(t)
	noon := at(2024, 7, 1, 12*hour)
	// What clocks here are called comes ahead of what everybody calls some, and that ahead of the book's EST.
	here := env
	here.Zone = comp.Table{First: api.Tran{Off: 100, Abbr: "eSt"}}
	checkZone(t, "EST", here, noon, at(2024, 7, 1, 12*hour-100*micro), api.OK)
	checkZone(t, "EST", env, noon, at(2024, 7, 1, 17*hour), api.OK)
	checkZone(t, "March", env, noon, at(2024, 7, 1, 9*hour), api.OK)
	// Called so at other times alone, it is what everybody calls so.
	here.Zone = comp.Table{First: api.Tran{Off: 100, Abbr: "EST"}, Trans: []api.Tran{{At: 0, Off: 100, Abbr: "X"}}}
	checkZone(t, "est", here, noon, at(2024, 7, 1, 17*hour), api.OK)
	checkZone(t, "est", here, at(1960, 1, 1, 5), at(1960, 1, 1, 5-100*micro), api.OK)
	// Signs and Z come ahead of all names.
	here.Zone = comp.Table{First: api.Tran{Off: 100, Abbr: "z"}}
	checkZone(t, "Z", here, noon, noon, api.OK)
	checkZone(t, "z", here, noon, noon, api.OK)
	here.Zone = comp.Table{First: api.Tran{Off: 100, Abbr: "+01"}}
	checkZone(t, "+01", here, noon, at(2024, 7, 1, 11*hour), api.OK)
	here.Zone = comp.Table{First: api.Tran{Off: 100, Abbr: "-x"}}
	checkZone(t, "-x", here, noon, api.Stamp{}, api.ErrLiteral)
	here.Zone = comp.Table{First: api.Tran{Off: 100}}
	checkZone(t, "", here, noon, at(2024, 7, 1, 12*hour-100*micro), api.OK)
	checkZone(t, "", env, noon, api.Stamp{}, api.ErrZone)
	checkZone(t, "Nowhere", env, noon, api.Stamp{}, api.ErrZone)
	checkZone(t, "Berlin", read.Env{Zone: env.Zone}, noon, api.Stamp{}, api.ErrZone)
	checkZone(t, "Berlin", read.Env{Zone: env.Zone, Book: &names.Book{}}, noon, api.Stamp{}, api.ErrZone)
	checkZone(t, "UTC", read.Env{}, noon, noon, api.OK)
}

// P18.4: of many readings the first that is called so.
func TestZoneReadings(t *testing.T) {
	env := environments(t)[3]
	l := at(2000, 1, 1, hour+5)
	// Clocks say 1 o'clock three times: by A, B and C; half past midnight, too: by A, a and C.
	for s, want := range map[string]api.Stamp{"a": at(1999, 12, 31, 23*hour+5), "A": at(1999, 12, 31, 23*hour+5), "b": at(2000, 1, 1, 5), "C": at(2000, 1, 1, 2*hour+5)} {
		checkZone(t, s, env, l, want, api.OK)
	}
	checkZone(t, "b", env, at(2000, 1, 1, hour/2), api.Stamp{}, api.ErrZone)
	checkZone(t, "c", env, at(2000, 1, 1, 0), at(2000, 1, 1, hour), api.OK)
	checkZone(t, "a", env, at(2000, 1, 1, hour/2), at(1999, 12, 31, 45*hour/2), api.OK)
	later := env
	later.Zone.First.Abbr = "X"
	checkZone(t, "a", later, at(2000, 1, 1, hour/2), at(2000, 1, 1, hour/2), api.OK)
	checkZone(t, "a", later, l, api.Stamp{}, api.ErrZone)
}

// P18.4: errors, their order, and both ends.
func TestZoneErrors(t *testing.T) {
	env := berlin(t)
	noon := at(2024, 7, 1, 12*hour)
	for _, s := range []string{"", "Z", "+01", "+x", "CET", "Nowhere", "Berlin"} {
		for _, wrong := range []api.Stamp{{Inf: 2}, {Inf: 1, U: 1}, {U: last().U + 1}, {U: first().U - 1}, {U: math.MinInt64}, {U: math.MaxInt64}, {Inf: math.MinInt}} {
			checkZone(t, s, env, wrong, api.Stamp{}, api.ErrArg)
		}
		for _, z := range []comp.Table{{First: api.Tran{At: 1}}, {First: api.Tran{Off: -57601}}, {Trans: []api.Tran{{At: 5}, {At: 5}}}} {
			for _, l := range []api.Stamp{noon, {Inf: 1}, {Inf: -1}} {
				checkZone(t, s, read.Env{Zone: z, Book: env.Book}, l, api.Stamp{}, api.ErrArg)
			}
		}
		for _, l := range []api.Stamp{{Inf: 1}, {Inf: -1}} {
			checkZone(t, s, env, l, l, api.OK)
		}
	}
	for s, e := range map[string]api.Errno{"+": api.ErrLiteral, "-": api.ErrLiteral, "+1:2": api.ErrLiteral, "+123": api.ErrLiteral, "++1": api.ErrLiteral, "+16": api.ErrRange, "-15:60": api.ErrRange,
		"+15:59:59": api.OK, "-15:59:59": api.OK, "-9999": api.ErrRange, "+1 ": api.ErrLiteral, " +1": api.ErrZone, " CET": api.ErrZone, "CET ": api.ErrZone, "ZZ": api.ErrZone} {
		if _, f := read.Zone(s, env, noon); f != e {
			t.Errorf("Zone(%q) is %d, not %d", s, f, e)
		}
	}
	for s, e := range map[string]api.Errno{"-00:00:01": api.ErrRange, "+01": api.OK, "EST": api.ErrRange, "JST": api.OK, "Far/West": api.ErrRange, "Far/East": api.OK, "CET": api.OK, "-99": api.ErrRange, "Nowhere": api.ErrZone} {
		if _, f := read.Zone(s, env, last()); f != e {
			t.Errorf("Zone(%q) at the end is %d, not %d", s, f, e)
		}
	}
	for s, e := range map[string]api.Errno{"+00:00:01": api.ErrRange, "-01": api.OK, "EST": api.OK, "JST": api.ErrRange, "Far/West": api.OK, "Far/East": api.ErrRange, "LMT": api.ErrRange, "Nowhere": api.ErrZone} {
		if _, f := read.Zone(s, env, first()); f != e {
			t.Errorf("Zone(%q) at the beginning is %d, not %d", s, f, e)
		}
	}
}

// P18.4: all names, by the tables themselves; by each second, too.
func TestZones(t *testing.T) {
	envs := environments(t)
	r := rand.New(rand.NewSource(184))
	for range 100000 {
		env, l, s := envs[r.Intn(len(envs))], someStamp(r), someZone(r)
		want, e := zoneOf(t, s, env, l)
		checkZone(t, s, env, l, want, e)
	}
	for range 20 {
		env, l := envs[pick(r, 0, 3)], someStamp(r)
		sec := secondsOf(l)
		seen := map[string]int64{}
		for at := sec - 57600; at <= sec+57600; at++ {
			if x, e := zone.At(env.Zone, at); e == api.OK && at+x.Off == sec {
				if _, ok := seen[small(x.Abbr)]; !ok {
					seen[small(x.Abbr)] = x.Off
				}
			}
		}
		for s, off := range seen {
			want, e := moved(l, off)
			checkZone(t, s, env, l, want, e)
		}
	}
}

// someStamp is a stamp that can be, often near the shifts of clocks.
func someStamp(r *rand.Rand) api.Stamp {
	switch r.Intn(4) {
	case 0:
		return at(1990+r.Intn(100), pick(r, time.March, time.October), 24+r.Intn(8), r.Int63n(6*hour))
	case 1:
		return at(2000, 1, 1, r.Int63n(6*hour)-2*hour)
	case 2:
		return pick(r, api.Stamp{U: first().U + r.Int63n(dayMicro)}, api.Stamp{U: last().U - r.Int63n(dayMicro)})
	}
	return api.Stamp{U: first().U + int64(r.Uint64()%uint64(last().U-first().U))}
}

// P4: the text of an instant, as by ISO, is read as that instant, in every session zone.
func TestThereAndBack(t *testing.T) {
	envs := environments(t)
	r := rand.New(rand.NewSource(185))
	for range 30000 {
		env := envs[r.Intn(len(envs))]
		env.Style.Order = r.Intn(3)
		x := someStamp(r)
		how, e := zone.At(env.Zone, secondsOf(x))
		l := api.Stamp{U: x.U + how.Off*micro}
		if e != api.OK || !rightStamp(l) || how.Off > 57599 || how.Off < -57599 {
			continue
		}
		w := time.Unix(secondsOf(l), (l.U%micro+micro)%micro*1000).UTC()
		y, era := w.Year(), ""
		if y < 1 {
			y, era = 1-y, " BC"
		}
		off := time.Unix(0, 0).In(time.FixedZone("", int(how.Off))).Format("-07:00:00")
		day := strings.Repeat("0", max(0, 4-len(itoa(y)))) + itoa(y) + w.Format("-01-02")
		checkTz(t, day+w.Format(" 15:04:05.000000")+off+era, env, x, api.OK)
		checkStamp(t, day+w.Format(" 15:04:05.000000")+era, env.Style.Order, l, api.OK)
	}
}

// What is handed in stays as it is.
func TestTablesStay(t *testing.T) {
	for i, env := range environments(t) {
		for _, s := range []string{"CET", "+01", "Berlin", "A", "Nowhere"} {
			read.Zone(s, env, at(2000, 1, 1, hour))
			read.Tz("2000-01-01 1:00 "+s, env)
		}
		if !reflect.DeepEqual(env.Zone, environments(t)[i].Zone) {
			t.Error("a table was changed", i)
		}
	}
}
