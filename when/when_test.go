package when_test

import (
	"math"
	"regexp"
	"strconv"
	"strings"
	"testing"
	"time"

	"computus/api"
	"computus/civil"
	"computus/when"
)

// weekday is a pattern of a weekday's name, whole or cut short, and names all of them.
const weekday = `(?i:sun(?:d|da|day)?|mon(?:d|da|day)?|tue(?:s|sd|sda|sday)?|wed(?:n|ne|nes|nesd|nesda|nesday)?|thu(?:r|rs|rsd|rsda|rsday)?|fri(?:d|da|day)?|sat(?:u|ur|urd|urda|urday)?)`

const short = "sunmontuewedthufrisat"

var (
	onForm   = regexp.MustCompile(`\A(?:([0-9]{1,2})|(?i:last)(` + weekday + `)|(` + weekday + `)(>=|<=)([0-9]{1,2}))\z`)
	atForm   = regexp.MustCompile(`\A(?:-|([0-9]{1,2})(?::([0-5][0-9])(?::([0-5][0-9]))?)?([wsugz]?))\z`)
	saveForm = regexp.MustCompile(`\A(?:-|(-?)([0-9]{1,2})(?::([0-5][0-9])(?::([0-5][0-9]))?)?)\z`)
)

func number(s string) int64 {
	n, _ := strconv.ParseInt(s, 10, 64)
	return n
}

func weekdayOf(s string) int64 {
	return int64(strings.Index(short, strings.ToLower(s[:3])) / 3)
}

// canBe: as section Words of chapter 7 has it.
func canBe(on when.On) bool {
	day, wd := on.N >= 1 && on.N <= 31, on.Wd >= 0 && on.Wd <= 6
	return on.Kind == 0 && day && on.Wd == 0 || on.Kind == 1 && wd && on.N == 0 || (on.Kind == 2 || on.Kind == 3) && wd && day
}

func atCanBe(at when.At) bool {
	return at.Sec >= 0 && at.Sec <= 86400 && strings.IndexByte("wsu", at.Kind) >= 0
}

// wantOn is what ReadOn must answer, by a pattern.
func wantOn(s string) (when.On, api.Errno) {
	m := onForm.FindStringSubmatch(s)
	var on when.On
	switch {
	case m == nil:
		return when.On{}, api.ErrForm
	case m[1] != "":
		on = when.On{Kind: 0, N: number(m[1])}
	case m[2] != "":
		on = when.On{Kind: 1, Wd: weekdayOf(m[2])}
	case m[4] == ">=":
		on = when.On{Kind: 2, Wd: weekdayOf(m[3]), N: number(m[5])}
	default:
		on = when.On{Kind: 3, Wd: weekdayOf(m[3]), N: number(m[5])}
	}
	if !canBe(on) {
		return when.On{}, api.ErrForm
	}
	return on, api.OK
}

// wantAt is what ReadAt must answer, by a pattern.
func wantAt(s string) (when.At, api.Errno) {
	m := atForm.FindStringSubmatch(s)
	if m == nil {
		return when.At{}, api.ErrForm
	}
	at := when.At{Sec: number(m[1])*3600 + number(m[2])*60 + number(m[3]), Kind: map[string]byte{"": 'w', "w": 'w', "s": 's', "u": 'u', "g": 'u', "z": 'u'}[m[4]]}
	if !atCanBe(at) {
		return when.At{}, api.ErrForm
	}
	return at, api.OK
}

// wantSave is what ReadSave must answer, by a pattern.
func wantSave(s string) (int64, api.Errno) {
	m := saveForm.FindStringSubmatch(s)
	if m == nil {
		return 0, api.ErrForm
	}
	sec := number(m[2])*3600 + number(m[3])*60 + number(m[4])
	if sec > 86400 {
		return 0, api.ErrForm
	}
	if m[1] == "-" {
		return -sec, api.OK
	}
	return sec, api.OK
}

func checkReads(t *testing.T, s string) {
	t.Helper()
	wOn, wOnErr := wantOn(s)
	if on, e := when.ReadOn(s); on != wOn || e != wOnErr {
		t.Fatalf("ReadOn(%q) is %v, %d, not %v, %d", s, on, e, wOn, wOnErr)
	}
	wAt, wAtErr := wantAt(s)
	if at, e := when.ReadAt(s); at != wAt || e != wAtErr {
		t.Fatalf("ReadAt(%q) is %v, %d, not %v, %d", s, at, e, wAt, wAtErr)
	}
	wSave, wSaveErr := wantSave(s)
	if sec, e := when.ReadSave(s); sec != wSave || e != wSaveErr {
		t.Fatalf("ReadSave(%q) is %d, %d, not %d, %d", s, sec, e, wSave, wSaveErr)
	}
}

// eachText goes through all texts of up to so many of the pieces.
func eachText(pieces []string, most int, f func(string)) {
	f("")
	if most == 0 {
		return
	}
	for _, p := range pieces {
		eachText(pieces, most-1, func(s string) { f(p + s) })
	}
}

// eachNear goes through the texts that are one byte away from s: less, more, another.
func eachNear(s string, f func(string)) {
	f(s)
	for i := range len(s) + 1 {
		for b := range 256 {
			one := string([]byte{byte(b)})
			f(s[:i] + one + s[i:])
			if i < len(s) {
				f(s[:i] + one + s[i+1:])
			}
		}
		if i < len(s) {
			f(s[:i] + s[i+1:])
		}
	}
}

// eachOn goes through all days of a month that can be.
func eachOn(f func(when.On)) {
	for kind := range 4 {
		for wd := range int64(7) {
			for n := range int64(32) {
				if on := (when.On{Kind: kind, Wd: wd, N: n}); canBe(on) {
					f(on)
				}
			}
		}
	}
}

// P7.1: by hand.
func TestReadOnByHand(t *testing.T) {
	for s, want := range map[string]when.On{
		"1": {0, 0, 1}, "9": {0, 0, 9}, "10": {0, 0, 10}, "31": {0, 0, 31}, "01": {0, 0, 1}, "09": {0, 0, 9},
		"lastSun": {1, 0, 0}, "lastSunday": {1, 0, 0}, "LASTSUN": {1, 0, 0}, "lastsat": {1, 6, 0}, "LaStThUrS": {1, 4, 0}, "lastTues": {1, 2, 0},
		"Sun>=8": {2, 0, 8}, "Sun>=08": {2, 0, 8}, "SATURDAY>=31": {2, 6, 31}, "mon>=1": {2, 1, 1}, "wedn>=15": {2, 3, 15},
		"Sun<=25": {3, 0, 25}, "fri<=1": {3, 5, 1}, "Friday<=01": {3, 5, 1}, "TUE<=31": {3, 2, 31},
	} {
		if on, e := when.ReadOn(s); on != want || e != api.OK {
			t.Errorf("ReadOn(%q) is %v, %d", s, on, e)
		}
	}
	for _, s := range []string{"", "0", "00", "32", "99", "007", "100", "-1", "+1", " 1", "1 ", "1x", "x1", "٣", "last", "lastSu", "lastSundays", "last Sun", "lastlastSun", "lasSun", "Sunlast", "last1",
		"lastSun>=1", "lastSun<=1", "Sun", "Sunday", "Su>=8", "Sunx>=8", "Sundays>=8", "Sun>8", "Sun<8", "Sun=8", "Sun=>8", "Sun=<8", "Sun>=", "Sun<=", "Sun>=0", "Sun>=00", "Sun<=0", "Sun>=32", "Sun<=32", "Sun>=008", "Sun>=-1",
		"Sun>= 8", "Sun >=8", ">=8", "<=8", "Sun>=8Sun", "Sun>=8>=8", "Sun8", "8>=Sun", "Sun>=<=8", "Sun\x00>=8", "Sun\xff", "S\xc5\xabn>=8", "\u017fun>=8", "la\u017ftSun", "Sun\u2265" + "8", "last\xff", "\xff", "-"} {
		if on, e := when.ReadOn(s); on != (when.On{}) || e != api.ErrForm {
			t.Errorf("ReadOn(%q) is %v, %d", s, on, e)
		}
	}
}

// P7.1: each name, whole and cut short, in small letters and great ones, with each number.
func TestReadOnEachName(t *testing.T) {
	for wd, name := range []string{"Sunday", "Monday", "Tuesday", "Wednesday", "Thursday", "Friday", "Saturday"} {
		for n := range len(name) + 1 {
			for _, s := range []string{name[:n], strings.ToUpper(name[:n]), strings.ToLower(name[:n])} {
				wantErr := api.ErrForm
				if n >= 3 {
					wantErr = api.OK
				}
				for _, last := range []string{"last", "LAST", "Last", "lasT"} {
					if on, e := when.ReadOn(last + s); e != wantErr || e == api.OK && on != (when.On{Kind: 1, Wd: int64(wd)}) {
						t.Error("ReadOn", last+s, on, e)
					}
				}
				for day := range 110 {
					checkReads(t, s+">="+strconv.Itoa(day))
					checkReads(t, s+"<="+strconv.Itoa(day))
					checkReads(t, s+">=0"+strconv.Itoa(day))
				}
			}
		}
	}
}

// P7.2: by hand.
func TestReadAtByHand(t *testing.T) {
	for s, want := range map[string]when.At{
		"-": {0, 'w'}, "0": {0, 'w'}, "00": {0, 'w'}, "0w": {0, 'w'}, "0s": {0, 's'}, "0u": {0, 'u'}, "0g": {0, 'u'}, "0z": {0, 'u'},
		"2": {7200, 'w'}, "02": {7200, 'w'}, "2:00": {7200, 'w'}, "2:00s": {7200, 's'}, "02:00u": {7200, 'u'}, "1:02:03z": {3723, 'u'}, "12s": {43200, 's'},
		"0:59": {3540, 'w'}, "0:00:59": {59, 'w'}, "23:59:59": {86399, 'w'}, "24": {86400, 'w'}, "24:00": {86400, 'w'}, "24:00:00g": {86400, 'u'},
	} {
		if at, e := when.ReadAt(s); at != want || e != api.OK {
			t.Errorf("ReadAt(%q) is %v, %d", s, at, e)
		}
	}
	for _, s := range []string{"", "w", "s", "-w", "-u", "--", "-0", "-1:00", "+1", "25", "99", "24:01", "24:00:01", "24:00:01u", "24:59", "2:60", "2:99", "2:00:60", "2:00:99", "2:60s", "123", "1:2", "1:002", "1:02:3", "1:02:003",
		"1:", "1::", ":", ":00", "1:02:", "1:02:03:", "1:02:03:04", "1:02:03.5", "1.5", "1:02.5", "2W", "2S", "2U", "2G", "2Z", "2ww", "2us", "2x", "2 ", " 2", "2 s", "2:s00", "2s:00", "u2", "2:00\x00", "2:00\xff", "٣", "2:0٣", "2\uff1a00", "0x1", "1e1", "007", "1_0"} {
		if at, e := when.ReadAt(s); at != (when.At{}) || e != api.ErrForm {
			t.Errorf("ReadAt(%q) is %v, %d", s, at, e)
		}
	}
}

// P7.2: by hand, of saves.
func TestReadSaveByHand(t *testing.T) {
	for s, want := range map[string]int64{"-": 0, "0": 0, "-0": 0, "0:00": 0, "-0:00:00": 0, "1": 3600, "-1": -3600, "1:00": 3600, "-1:00": -3600, "0:20": 1200, "-0:20": -1200, "0:00:01": 1, "-0:00:01": -1, "0:53:28": 3208, "-12:59:59": -46799,
		"24": 86400, "-24": -86400, "24:00": 86400, "-24:00:00": -86400, "23:59:59": 86399, "-23:59:59": -86399} {
		if sec, e := when.ReadSave(s); sec != want || e != api.OK {
			t.Errorf("ReadSave(%q) is %d, %d", s, sec, e)
		}
	}
	for _, s := range []string{"", "--", "--1", "+1", "-+1", "1-", "-:", "-w", "1w", "1s", "1u", "-1:00u", "24:00:01", "-24:00:01", "24:01", "-24:01", "25", "-25", "99", "-99", "1:60", "-1:60", "1:00:60", "1:2", "100", "-100", "-1:00:", " 1", "1 ", "- 1", "-\x00", "\xff", "-\xff", "1.5"} {
		if sec, e := when.ReadSave(s); sec != 0 || e != api.ErrForm {
			t.Errorf("ReadSave(%q) is %d, %d", s, sec, e)
		}
	}
}

// P7.1, P7.2: all short texts, what is near to right ones, and each time.
func TestReadsEachText(t *testing.T) {
	eachText([]string{"0", "5", "6", "2", ":", "-", "w", "s"}, 6, func(s string) { checkReads(t, s) })
	eachText([]string{"last", "Sun", "MON", "su", ">", "<", "=", ">=", "<=", "3", "0", " "}, 4, func(s string) { checkReads(t, s) })
	for _, s := range []string{"31", "lastSun", "Sun>=8", "thu<=31", "24:00", "23:59:59u", "-1:00", "-24:00:00", "-"} {
		eachNear(s, func(s string) { checkReads(t, s) })
	}
	for a := range 256 {
		for b := range 256 {
			checkReads(t, string([]byte{byte(a), byte(b)}))
		}
	}
	for h := range 30 {
		for m := range 65 {
			for s := range 65 {
				text := strconv.Itoa(h) + ":" + strconv.Itoa(m) + ":" + strconv.Itoa(s)
				checkReads(t, text)
				checkReads(t, "-"+text)
				checkReads(t, text+"s")
			}
		}
	}
	for _, s := range []string{strings.Repeat("0", 100000), strings.Repeat("1:", 100000), "Sun>=" + strings.Repeat("0", 100000) + "1", "last" + strings.Repeat("s", 100000), "-" + strings.Repeat("9", 100)} {
		checkReads(t, s)
	}
}

// dayOf is the day of a date, which may be behind its month's end.
func dayOf(y, m, d int64) int64 {
	const epoch = 10957 // days from 1970 to 2000
	return time.Date(int(y), time.Month(m), int(d), 0, 0, 0, 0, time.UTC).Unix()/86400 - epoch
}

func weekdayAt(y, m, d int64) int64 {
	return int64(time.Date(int(y), time.Month(m), int(d), 0, 0, 0, 0, time.UTC).Weekday())
}

// wantDay is the day, found day by day.
func wantDay(y, m int64, on when.On) int64 {
	d, step := on.N, int64(1)
	switch on.Kind {
	case 0:
		return dayOf(y, m, d)
	case 1:
		d, step = int64(time.Date(int(y), time.Month(m)+1, 0, 0, 0, 0, 0, time.UTC).Day()), -1
	case 3:
		step = -1
	}
	for weekdayAt(y, m, d) != on.Wd {
		d += step
	}
	return dayOf(y, m, d)
}

// P7.3: by hand.
func TestDayByHand(t *testing.T) {
	for _, c := range []struct {
		y, m    int64
		on      when.On
		wy, wm  int64
		wantDay int64
	}{
		{2024, 3, when.On{Kind: 1}, 2024, 3, 31},
		{2024, 2, when.On{Kind: 1, Wd: 4}, 2024, 2, 29},
		{2023, 2, when.On{Kind: 1, Wd: 2}, 2023, 2, 28},
		{2024, 3, when.On{Kind: 2, N: 8}, 2024, 3, 10},
		{2024, 3, when.On{Kind: 2, N: 10}, 2024, 3, 10},
		{2024, 3, when.On{Kind: 2, N: 11}, 2024, 3, 17},
		{2024, 3, when.On{Kind: 3, N: 25}, 2024, 3, 24},
		{2024, 3, when.On{Kind: 3, N: 24}, 2024, 3, 24},
		{2024, 3, when.On{Kind: 3, N: 23}, 2024, 3, 17},
		{2024, 4, when.On{Kind: 0, N: 31}, 2024, 5, 1},
		{2023, 2, when.On{Kind: 0, N: 29}, 2023, 3, 1},
		{2023, 2, when.On{Kind: 0, N: 31}, 2023, 3, 3},
		{2024, 2, when.On{Kind: 0, N: 31}, 2024, 3, 2},
		{2024, 2, when.On{Kind: 2, Wd: 6, N: 31}, 2024, 3, 2},
		{2024, 2, when.On{Kind: 2, Wd: 5, N: 31}, 2024, 3, 8},
		{2024, 2, when.On{Kind: 3, Wd: 6, N: 31}, 2024, 3, 2},
		{2024, 2, when.On{Kind: 3, Wd: 5, N: 31}, 2024, 3, 1},
		{2024, 2, when.On{Kind: 3, Wd: 4, N: 31}, 2024, 2, 29},
		{2024, 3, when.On{Kind: 3, Wd: 5, N: 1}, 2024, 3, 1},
		{2024, 3, when.On{Kind: 3, Wd: 4, N: 1}, 2024, 2, 29},
		{2024, 3, when.On{Kind: 3, Wd: 6, N: 1}, 2024, 2, 24},
		{2024, 1, when.On{Kind: 3, N: 1}, 2023, 12, 31},
		{2024, 12, when.On{Kind: 2, Wd: 3, N: 31}, 2025, 1, 1},
		{-4717, 1, when.On{Kind: 0, N: 1}, -4717, 1, 1},
		{294281, 12, when.On{Kind: 0, N: 31}, 294281, 12, 31},
	} {
		want, _ := civil.Days(c.wy, c.wm, c.wantDay)
		if n, e := when.Day(c.y, c.m, c.on); n != want || e != api.OK {
			t.Error("Day", c, n, e)
		}
	}
}

// P7.3, P7.6: each day of a month that can be, in each month of many years, against a search day by day.
func TestDayEach(t *testing.T) {
	years := []int64{-4717, -4716, -4, -1, 0, 1, 1600, 1800, 1899, 1900, 1970, 2100, 294276, 294280, 294281}
	for y := int64(1996); y < 2025; y++ {
		years = append(years, y)
	}
	for _, y := range years {
		for m := int64(1); m <= 12; m++ {
			eachOn(func(on when.On) {
				n, e := when.Day(y, m, on)
				if want := wantDay(y, m, on); n != want || e != api.OK {
					t.Fatal("Day", y, m, on, n, e, want)
				}
				if on.Kind == 0 {
					return
				}
				if civil.Weekday(n) != on.Wd {
					t.Fatal("weekday", y, m, on, n)
				}
				if on.Kind == 1 {
					if end := dayOf(y, m+1, 0); n > end || n < end-6 {
						t.Fatal("last", y, m, on, n)
					}
				} else if at := dayOf(y, m, on.N); on.Kind == 2 && (n < at || n > at+6) || on.Kind == 3 && (n > at || n < at-6) {
					t.Fatal("within six days", y, m, on, n)
				}
			})
		}
	}
}

// wrongOns are days of a month that can not be.
func wrongOns() []when.On {
	l := []when.On{{}, {Kind: 0, N: 32}, {Kind: 0, Wd: 1, N: 1}, {Kind: 0, Wd: -1, N: 1}, {Kind: 0, Wd: 6, N: 31}, {Kind: 1, Wd: 7}, {Kind: 1, Wd: -1}, {Kind: 1, N: 1}, {Kind: 1, Wd: 3, N: 31}, {Kind: 1, Wd: 3, N: -1},
		{Kind: 4, Wd: 1, N: 1}, {Kind: -1, N: 1}, {Kind: -1, Wd: 1, N: 1}, {Kind: math.MaxInt, N: 1}, {Kind: math.MinInt, N: 1}, {Kind: 4}, {Kind: 256, N: 1}, {Kind: 1<<32 + 1, Wd: 1}}
	for _, n := range []int64{0, 32, -1, math.MinInt64, math.MaxInt64, 1 << 32, 1<<32 + 1} {
		l = append(l, when.On{Kind: 0, N: n}, when.On{Kind: 2, N: n}, when.On{Kind: 3, N: n}, when.On{Kind: 2, Wd: 6, N: n}, when.On{Kind: 3, Wd: 6, N: n})
	}
	for _, wd := range []int64{-1, 7, math.MinInt64, math.MaxInt64, 1 << 32} {
		l = append(l, when.On{Kind: 1, Wd: wd}, when.On{Kind: 2, Wd: wd, N: 1}, when.On{Kind: 3, Wd: wd, N: 31}, when.On{Kind: 0, Wd: wd, N: 1})
	}
	return l
}

// P7.3: what can not be, and years at the ends and beyond; which one comes first.
func TestDayWrong(t *testing.T) {
	years := []int64{2024, -4717, 294281, -4718, 294282, math.MinInt64, math.MaxInt64}
	on := when.On{Kind: 0, N: 1}
	for _, y := range years {
		for _, wrong := range wrongOns() {
			if n, e := when.Day(y, 1, wrong); n != 0 || e != api.ErrArg {
				t.Error("Day", y, wrong, n, e)
			}
		}
		for _, m := range []int64{0, 13, -1, -12, math.MinInt64, math.MaxInt64, 1<<32 + 1} {
			if n, e := when.Day(y, m, on); n != 0 || e != api.ErrArg {
				t.Error("Day", y, m, n, e)
			}
		}
	}
	for _, y := range []int64{-4718, 294282, -4719, 294283, -1 << 32, 1<<32 + 2024, math.MinInt64, math.MaxInt64} {
		eachOn(func(on when.On) {
			for m := int64(1); m <= 12; m++ {
				if n, e := when.Day(y, m, on); n != 0 || e != api.ErrRange {
					t.Error("Day", y, m, on, n, e)
				}
			}
		})
	}
}

// P7.4: by hand.
func TestTextsByHand(t *testing.T) {
	for want, on := range map[string]when.On{"1": {0, 0, 1}, "31": {0, 0, 31}, "lastSun": {1, 0, 0}, "lastMon": {1, 1, 0}, "lastTue": {1, 2, 0}, "lastWed": {1, 3, 0}, "lastThu": {1, 4, 0}, "lastFri": {1, 5, 0}, "lastSat": {1, 6, 0},
		"Sun>=8": {2, 0, 8}, "Sat>=31": {2, 6, 31}, "Sun<=25": {3, 0, 25}, "Wed<=1": {3, 3, 1}} {
		if s, e := when.TextOn(on); s != want || e != api.OK {
			t.Error("TextOn", on, s, e)
		}
	}
	for want, at := range map[string]when.At{"0:00": {0, 'w'}, "0:00s": {0, 's'}, "0:00u": {0, 'u'}, "2:00s": {7200, 's'}, "0:01": {60, 'w'}, "0:00:01": {1, 'w'}, "1:02:03u": {3723, 'u'}, "9:59:59": {35999, 'w'}, "10:00": {36000, 'w'}, "24:00": {86400, 'w'}, "24:00u": {86400, 'u'}, "23:59:59s": {86399, 's'}} {
		if s, e := when.TextAt(at); s != want || e != api.OK {
			t.Error("TextAt", at, s, e)
		}
	}
}

// P7.4: what can not be.
func TestTextsWrong(t *testing.T) {
	for _, on := range wrongOns() {
		if s, e := when.TextOn(on); s != "" || e != api.ErrArg {
			t.Error("TextOn", on, s, e)
		}
	}
	for _, sec := range []int64{-1, 86401, math.MinInt64, math.MaxInt64, math.MaxInt64 / 1000000, 1 << 32} {
		for _, kind := range []byte("wsu") {
			if s, e := when.TextAt(when.At{Sec: sec, Kind: kind}); s != "" || e != api.ErrArg {
				t.Error("TextAt", sec, kind, s, e)
			}
		}
	}
	for kind := range 256 {
		at := when.At{Sec: 3600, Kind: byte(kind)}
		wantErr := api.OK
		if !atCanBe(at) {
			wantErr = api.ErrArg
		}
		if s, e := when.TextAt(at); e != wantErr || (s == "") != (e != api.OK) {
			t.Error("TextAt", at, s, e)
		}
	}
}

// P7.4, P7.5: all of them, as they were written.
func TestTextsBack(t *testing.T) {
	seen := map[string]when.On{}
	eachOn(func(on when.On) {
		s, e := when.TextOn(on)
		if was, ok := seen[s]; e != api.OK || ok {
			t.Error("TextOn", on, s, e, was)
		}
		seen[s] = on
		if back, e := when.ReadOn(s); back != on || e != api.OK {
			t.Error("ReadOn", s, back, e)
		}
	})
	form := regexp.MustCompile(`\A(0|[1-9][0-9]?):[0-9]{2}(:[0-9]{2})?[su]?\z`)
	for sec := range int64(86401) {
		for _, kind := range []byte("wsu") {
			at := when.At{Sec: sec, Kind: kind}
			s, e := when.TextAt(at)
			if e != api.OK || !form.MatchString(s) || strings.Count(s, ":") > 1 != (sec%60 != 0) {
				t.Fatal("TextAt", at, s, e)
			}
			if back, e := when.ReadAt(s); back != at || e != api.OK {
				t.Fatal("ReadAt", s, back, e)
			}
		}
	}
}
