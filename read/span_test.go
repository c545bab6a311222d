package read_test

import (
	"math/big"
	"math/rand"
	"regexp"
	"strconv"
	"strings"
	"testing"

	"computus/api"
	"computus/read"
)

const mostCount = 2147483647 // months, and days

// The forms of intervals in small letters, with one blank between words, and behind each item of those in words.
var (
	iso  = regexp.MustCompile(`^p(?:(-?\d+)y)?(?:(-?\d+)m)?(?:(-?\d+)w)?(?:(-?\d+)d)?(?:(t)(?:(-?\d+)h)?(?:(-?\d+)m)?(?:(-?\d+)(?:\.(\d{1,6}))?s)?)?$`)
	sql  = regexp.MustCompile(`^([+-])(\d+)-(\d+) ([+-])(\d+) ([+-])(\d+):(\d\d):(\d\d)(?:\.(\d{1,6}))?$`)
	pair = regexp.MustCompile(`^([+-]?)(\d+) (year|mon|month|week|day|hour|minute|min|second|sec)s? `)
	face = regexp.MustCompile(`^([+-]?)(\d+):(\d\d):(\d\d)(?:\.(\d{1,6}))? `)
)

// units is each name's part, its size there, and which unit it is.
var units = map[string][3]int64{"year": {0, 12, 1}, "mon": {0, 1, 2}, "month": {0, 1, 2}, "week": {1, 7, 3}, "day": {1, 1, 4}, "hour": {2, 3600 * micro, 5},
	"minute": {2, 60 * micro, 6}, "min": {2, 60 * micro, 6}, "second": {2, micro, 7}, "sec": {2, micro, 7}}

// sum adds numbers up one behind the other, and tells whether one step left int64.
type sum struct {
	parts [3]*big.Int
	out   bool
}

func newSum() *sum { return &sum{parts: [3]*big.Int{{}, {}, {}}} }

func big10(s string) *big.Int {
	n, _ := new(big.Int).SetString("0"+s, 10)
	return n
}

// add is n times size to a part; the number itself must be an int64.
func (x *sum) add(part int, n *big.Int, size int64) {
	by := new(big.Int).Mul(n, big.NewInt(size))
	total := new(big.Int).Add(x.parts[part], by)
	x.out = x.out || !n.IsInt64() || !by.IsInt64() || !total.IsInt64()
	x.parts[part] = total
}

func signed(sign string, n *big.Int) *big.Int {
	if sign == "-" {
		return new(big.Int).Neg(n)
	}
	return n
}

// addSigned is likewise of a sign and digits, which must be an int64 without it.
func (x *sum) addSigned(part int, sign, digits string, size int64) {
	n := big10(digits)
	x.out = x.out || !n.IsInt64()
	x.add(part, signed(sign, n), size)
}

// addTime is a time's hours, then all else; false, if minutes or seconds are too many.
func (x *sum) addTime(sign, h, m, s, fraction string) bool {
	if number(m) > 59 || number(s) > 59 {
		return false
	}
	x.addSigned(2, sign, h, 3600*micro)
	rest := (number(m)*60+number(s))*micro + number((fraction + "000000")[:6])
	x.add(2, signed(sign, big.NewInt(rest)), 1)
	return true
}

// span is the interval of a sum, turned or not.
func (x *sum) span(back bool) (api.Span, api.Errno) {
	for _, p := range x.parts {
		if back {
			p.Neg(p)
		}
	}
	out := x.out || x.parts[2].CmpAbs(new(big.Int).SetUint64(1<<63-1)) > 0
	for _, p := range x.parts[:2] {
		out = out || p.CmpAbs(big.NewInt(mostCount)) > 0
	}
	if out {
		return api.Span{}, api.ErrRange
	}
	return api.Span{M: x.parts[0].Int64(), D: x.parts[1].Int64(), U: x.parts[2].Int64()}, api.OK
}

// intervalOf is what Span must tell, by patterns.
func intervalOf(s string) (api.Span, api.Errno) {
	if len(s) > mostText {
		return api.Span{}, api.ErrLiteral
	}
	s = small(s)
	switch s {
	case "infinity":
		return api.Span{Inf: 1}, api.OK
	case "-infinity":
		return api.Span{Inf: -1}, api.OK
	}
	if l := iso.FindStringSubmatch(s); l != nil {
		return byISO(l)
	}
	if l := sql.FindStringSubmatch(s); l != nil {
		x := newSum()
		x.addSigned(0, l[1], l[2], 12)
		x.addSigned(0, l[1], l[3], 1)
		x.addSigned(1, l[4], l[5], 1)
		if !x.addTime(l[6], l[7], l[8], l[9], l[10]) {
			return api.Span{}, api.ErrLiteral
		}
		return x.span(false)
	}
	return inWords(s)
}

// byISO is the interval of the parts of such a text.
func byISO(l []string) (api.Span, api.Errno) {
	if strings.Join(l[6:9], "") == "" && l[5] == "t" || strings.Join(l[1:], "") == "" {
		return api.Span{}, api.ErrLiteral
	}
	x := newSum()
	for i, unit := range []struct {
		part int
		size int64
	}{1: {0, 12}, 2: {0, 1}, 3: {1, 7}, 4: {1, 1}, 6: {2, 3600 * micro}, 7: {2, 60 * micro}, 8: {2, micro}} {
		if unit.size != 0 && l[i] != "" {
			n, below := strings.CutPrefix(l[i], "-")
			x.add(unit.part, signed(map[bool]string{true: "-"}[below], big10(n)), unit.size)
		}
	}
	if l[9] != "" {
		x.add(2, signed(l[8][:1], big.NewInt(number((l[9] + "000000")[:6]))), 1)
	}
	return x.span(false)
}

// inWords is the interval of numbers with units, and times.
func inWords(s string) (api.Span, api.Errno) {
	rest, back := strings.CutSuffix(s, " ago")
	rest += " "
	x, seen := newSum(), map[int64]int{}
	for rest != "" {
		if l := pair.FindStringSubmatch(rest); l != nil {
			u := units[l[3]]
			seen[u[2]]++
			x.addSigned(int(u[0]), l[1], l[2], u[1])
			rest = rest[len(l[0]):]
			continue
		}
		l := face.FindStringSubmatch(rest)
		if l == nil || !x.addTime(l[1], l[2], l[3], l[4], l[5]) {
			return api.Span{}, api.ErrLiteral
		}
		seen[5]++
		seen[6]++
		seen[7]++
		rest = rest[len(l[0]):]
	}
	for _, often := range seen {
		if often > 1 {
			return api.Span{}, api.ErrLiteral
		}
	}
	if len(seen) == 0 {
		return api.Span{}, api.ErrLiteral
	}
	return x.span(back)
}

func checkSpan(t *testing.T, s string, want api.Span, e api.Errno) {
	t.Helper()
	if got, f := read.Span(s); got != want || f != e {
		t.Fatalf("Span(%q) is %v, %d, not %v, %d", s, got, f, want, e)
	}
}

// checkSpanByPattern tells whether it was right.
func checkSpanByPattern(t *testing.T, s string) bool {
	t.Helper()
	want, e := intervalOf(s)
	checkSpan(t, s, want, e)
	return e == api.OK
}

func itoa(n int) string { return strconv.Itoa(n) }

// P18.6: all forms.
func TestSpanForms(t *testing.T) {
	for s, want := range map[string]api.Span{
		"infinity": {Inf: 1}, "-INFINITY": {Inf: -1},
		"P1Y": {M: 12}, "P1M": {M: 1}, "P1W": {D: 7}, "P1D": {D: 1}, "PT1H": {U: hour}, "PT1M": {U: 60 * micro}, "PT1S": {U: micro}, "p-1y2m-3w4dt-5h6m-7.8s": {M: -10, D: -17, U: -5*hour + 360*micro - 7800000},
		"PT-0.5S": {U: -500000}, "PT0.000001S": {U: 1}, "PT-0.000001S": {U: -1}, "PT1.5S": {U: 1500000}, "PT0S": {}, "P0D": {}, "P1YT1S": {M: 12, U: micro}, "P0001Y": {M: 12}, "P-0Y": {},
		"+1-2 +3 +4:05:06": {M: 14, D: 3, U: 4*hour + 306*micro}, "-1-2 -3 -4:05:06.5": {M: -14, D: -3, U: -4*hour - 306500000}, "+0-13 +0 +0:00:00": {M: 13}, "+1-2 -3 +100:05:06.000001": {M: 14, D: -3, U: 100*hour + 306*micro + 1},
		"1 year": {M: 12}, "1 years": {M: 12}, "-2 mon": {M: -2}, "2 mons": {M: 2}, "+2 month": {M: 2}, "2 months": {M: 2}, "2 week": {D: 14}, "2 weeks": {D: 14}, "3 day": {D: 3}, "3 days": {D: 3}, "3 hour": {U: 3 * hour},
		"3 hours": {U: 3 * hour}, "3 minute": {U: 180 * micro}, "3 minutes": {U: 180 * micro}, "3 min": {U: 180 * micro}, "3 mins": {U: 180 * micro}, "3 second": {U: 3 * micro}, "3 seconds": {U: 3 * micro}, "3 sec": {U: 3 * micro},
		"3 secs": {U: 3 * micro}, "03:04:05": {U: 3*hour + 245*micro}, "+3:04:05.6": {U: 3*hour + 245600000}, "-3:04:05.6": {U: -3*hour - 245600000}, "1 day 1 week": {D: 8}, "1 hour 2 min 3 sec": {U: hour + 123*micro},
		"1 day ago": {D: -1}, "-1 day 1:00:00 ago": {D: 1, U: -hour}, "1:00:00 1 day -1 year AGO": {M: 12, D: -1, U: -hour}, "0 days": {}, "-0 days ago": {}, "1 mon -1 day +00:00:01": {M: 1, D: -1, U: micro},
		"999999:00:00": {U: 999999 * hour}, "-1 year -2 mons +3 days -04:05:06": {M: -14, D: 3, U: -4*hour - 306*micro},
	} {
		checkSpan(t, s, want, api.OK)
		checkSpanByPattern(t, s)
	}
	for _, s := range []string{"", " ", "1", "P", "PT", "P1", "P1YT", "PY", "P1H", "PT1Y", "PT1D", "P1M1Y", "P1Y1Y", "PT1M1H", "PT1S1S", "P1D1W", "P+1Y", "P--1Y", "P1.5Y", "PT1.5M", "PT1.S", "PT.5S", "PT1.1234567S", "P1Y T1S", "P 1Y", "-P1Y",
		"P1Y ago", "P1Y2", "P1YT1ST1S", "PT1HT1M", "1 P1Y", "P1,5Y", "P1Y-", "P-Y", "PTS",
		"1-2 +3 +4:05:06", "+1-2 3 +4:05:06", "+1-2 +3 4:05:06", "+1-2 +3", "+1-2", "+1-2 +3 +4:05", "+1-2 +3 +4:5:06", "+1-2 +3 +4:05:06 ago", "+1-2 +3 +4:60:00", "+1-2 +3 +4:00:60", "+1-2 +3 +4:05:06.", "+1-2 +3 +4:05:06.1234567",
		"+1 +3 +4:05:06", "+1--2 +3 +4:05:06", "+1-+2 +3 +4:05:06", "+-2 +3 +4:05:06", "+1- +3 +4:05:06", "++1-2 +3 +4:05:06", "+1-2 + +4:05:06", "+1-2 +3 +:05:06", "+1-2-3 +3 +4:05:06", "+1-2 +3-1 +4:05:06", "+1-2 +3 +4:05:06:07", "+ 1-2 +3 +4:05:06",
		"day", "1 days 1 day", "1 mon 1 month", "1 min 1 minute", "1 sec 1 second", "1 hour 1:00:00", "1:00:00 1 min", "1 sec 1:00:00", "1:00:00 1:00:00", "ago", "1 day ago ago", "ago 1 day", "1 day ago 1 hour", "1day", "- 1 day", "--1 day", "1.5 days",
		"1.5 seconds", "1 decade", "1 century", "1 y", "1 d", "1 dayss", "1 s", "1 days,", "1 day and 1 hour", "1:00", "1:00:0", "1:60:00", "1:00:60", "1:00:00.", "1:00:00.1234567", ":00:00", "1 :00:00", "-:00:00", "1:00:00:00", "1::00:00", "1:0:00:00",
		"infinity ago", "infinity infinity", "+infinity", "1 infinity", "1 day 2", "1 day x", "@ 1 day", "١ day", "1 dayſ", "1 wee\u212a", "1 ago", "1\vday", "1 day\x00", "year 1", "1 microsecond", "1 us"} {
		checkSpan(t, s, api.Span{}, api.ErrLiteral)
		checkSpanByPattern(t, s)
	}
}

// P18.6: what leaves int64 or what an interval can be, step by step.
func TestSpanRange(t *testing.T) {
	for s, want := range map[string]api.Span{
		"2147483647 days": {D: mostCount}, "-2147483647 days": {D: -mostCount}, "-2147483647 mons ago": {M: mostCount}, "P178956970Y7M": {M: mostCount}, "306783378 weeks 1 day": {D: mostCount},
		"2562047788:00:54.775807": {U: 1<<63 - 1}, "-2562047788:00:54.775807": {U: -(1<<63 - 1)}, "PT2562047788H54.775807S": {U: 1<<63 - 1}, "PT-9223372036854.775807S": {U: -(1<<63 - 1)},
		"+0-2147483647 -2147483647 -2562047788:00:54.775807":  {M: mostCount, D: -mostCount, U: -(1<<63 - 1)},
		"9223372036854775807 days -1317624576693539400 weeks": {D: 7},
		// A number of ISO has its sign with it.
		"P768614336404564650Y-9223372036854775808M": {M: -8},
		"0000000000000000000000000000000000001 day": {D: 1}, "PT2562047788H0M-1S": {U: 2562047788*hour - micro}, "2562047788 hours -60 secs 1 min": {U: 2562047788 * hour},
	} {
		checkSpan(t, s, want, api.OK)
		checkSpanByPattern(t, s)
	}
	for _, s := range []string{"2147483648 days", "-2147483648 days", "-2147483648 days ago", "2147483648 mons", "178956970 years 8 mons", "P306783378W2D", "2562047788:00:54.775808", "-2562047788:00:54.775808", "-2562047788:00:54.775808 ago", "-2562047788:00:54.775809",
		"2562047789:00:00", "2562047789:00:00 ago", "PT2562047789H", "9223372036854775808 days", "-9223372036854775808 days", "P9223372036854775808D", "P-9223372036854775809D", "99999999999999999999999999 secs", "P99999999999999999999999999999Y",
		"99999999999999999999:00:00", "+99999999999999999999-0 +0 +0:00:00", "+0-99999999999999999999 +0 +0:00:00", "+0-0 -99999999999999999999 +0:00:00", "9223372036854775807 years", "9223372036854775807 weeks", "9223372036854775807 hours",
		// Each sum on the way counts, whatever comes behind it.
		"1317624576693539401 weeks 1 day", "2562047788 hours 1 min -60 secs", "9223372036854775807 days 1 week", "PT2562047788H54.775808S", "PT9223372036854.775808S", "PT2562047788H1M-60S", "768614336404564650 years 8 mons", "-9223372036854775808 mons 768614336404564650 years"} {
		checkSpan(t, s, api.Span{}, api.ErrRange)
		checkSpanByPattern(t, s)
	}
	// What is no interval is told ahead of what is too large.
	for _, s := range []string{"99999999999999999999 days 1", "99999999999999999999 days 1 day", "99999999999999999999:60:00", "P99999999999999999999YT", "99999999999999999999 dayz", "+99999999999999999999-0 +0 +0:00:60", "9223372036854775808"} {
		checkSpan(t, s, api.Span{}, api.ErrLiteral)
	}
	for _, s := range []string{"1 day", "P1D", "infinity"} {
		long := strings.Repeat("\t", mostText-len(s)) + s
		want, _ := intervalOf(s)
		checkSpan(t, long, want, api.OK)
		checkSpan(t, long+" ", api.Span{}, api.ErrLiteral)
	}
	checkSpan(t, strings.Repeat("0", mostText-5)+"1 day"[1:]+"s", api.Span{}, api.OK)
	checkSpan(t, strings.Repeat("0", mostText-5)+" days ", api.Span{}, api.ErrLiteral)
}

// someCount is digits of a number, often at an edge.
func someCount(r *rand.Rand) string {
	switch r.Intn(12) {
	case 0:
		return pick(r, "2147483647", "2147483648", "9223372036854775807", "9223372036854775808", "178956970", "306783378", "2562047788", "768614336404564650", "99999999999999999999")
	case 1:
		return figures(r, r.Intn(20))
	}
	return itoa(r.Intn(30))
}

func someFace(r *rand.Rand) string {
	s := someCount(r) + ":" + pick(r, "00", "59", "60", figures(r, 2), figures(r, 1)) + ":" + pick(r, "00", "54", "59", figures(r, 2))
	if r.Intn(2) == 0 {
		s += "." + figures(r, r.Intn(8))
	}
	return s
}

// someInterval is a text that is an interval, or nearly so.
func someInterval(r *rand.Rand) string {
	sign := func() string { return pick(r, "", "", "-", "+") }
	switch r.Intn(4) {
	case 0:
		s := "P"
		for _, c := range "YMWDTHMS" {
			switch {
			case c == 'T':
				s += pick(r, "T", "T", "")
			case r.Intn(2) == 0:
				s += pick(r, "", "", "-") + someCount(r) + pick(r, "", "", "."+figures(r, r.Intn(8))) + string(c)
			}
		}
		if r.Intn(2) == 0 {
			s = strings.ReplaceAll(s, ".", "")
		}
		return mangled(r, s)
	case 1:
		return mangled(r, pick(r, "+", "-", "-", "")+someCount(r)+"-"+someCount(r)+" "+pick(r, "+", "-", "-", "")+someCount(r)+" "+pick(r, "+", "-")+someFace(r))
	}
	var l []string
	for range r.Intn(5) {
		if r.Intn(4) == 0 {
			l = append(l, sign()+someFace(r))
			continue
		}
		unit := pick(r, "year", "mon", "month", "week", "day", "hour", "minute", "min", "second", "sec", "x")
		l = append(l, sign()+someCount(r)+" "+unit+pick(r, "", "s"))
	}
	if r.Intn(4) == 0 {
		l = append(l, "ago")
	}
	return mangled(r, strings.Join(l, " "))
}

// P18.6: all texts, by patterns.
func TestAllIntervals(t *testing.T) {
	r := rand.New(rand.NewSource(186))
	ok := 0
	for range 100000 {
		if checkSpanByPattern(t, someInterval(r)) {
			ok++
		}
	}
	if ok < 10000 {
		t.Error("too few were right:", ok)
	}
	for range 20000 {
		checkSpanByPattern(t, someText(r))
	}
}
