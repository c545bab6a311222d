package clock_test

import (
	"fmt"
	"math"
	"math/big"
	"math/rand"
	"regexp"
	"strconv"
	"strings"
	"testing"

	"computus/api"
	"computus/clock"
)

const mostOffset = 57599

// far are numbers at the ends of the int64s.
func far() []int64 {
	return []int64{math.MinInt64, math.MinInt64 + 1, -1 << 62, -1 << 40, 1 << 40, 1 << 62, math.MaxInt64 - 1, math.MaxInt64}
}

// P3.1: each part alone at its edges, and all of them together.
func TestMake(t *testing.T) {
	hours := append(far(), -24, -1, 0, 1, 12, 23, 24, 25)
	sixties := append(far(), -60, -59, -1, 0, 1, 30, 59, 60, 61)
	micros := append(far(), -999999, -1, 0, 1, 500000, 999999, 1000000)
	for _, h := range hours {
		for _, m := range sixties {
			for _, s := range sixties {
				for _, us := range micros {
					checkMake(t, h, m, s, us)
				}
			}
		}
	}
}

func checkMake(t *testing.T, h, m, s, us int64) {
	t.Helper()
	want, wantErr := int64(0), api.ErrRange
	in := h >= 0 && h <= 24 && m >= 0 && m <= 59 && s >= 0 && s <= 59 && us >= 0 && us <= 999999
	if in && (h < 24 || m == 0 && s == 0 && us == 0) {
		want, wantErr = ((h*60+m)*60+s)*1000000+us, api.OK
	}
	if n, e := clock.Make(h, m, s, us); n != want || e != wantErr {
		t.Fatal("Make", h, m, s, us, "is", n, e, "not", want, wantErr)
	}
}

// P3.1: Parts are those that Make puts together.
func TestParts(t *testing.T) {
	for h := range int64(24) {
		for m := range int64(60) {
			for s := range int64(60) {
				us := (h*7919 + m*104729 + s*15485863) % 1000000
				at := (h*3600+m*60+s)*1000000 + us
				if h2, m2, s2, us2, e := clock.Parts(at); h2 != h || m2 != m || s2 != s || us2 != us || e != api.OK {
					t.Fatal("Parts", at, h2, m2, s2, us2, e)
				}
				if n, e := clock.Make(h, m, s, us); n != at || e != api.OK {
					t.Fatal("Make", h, m, s, us, n, e)
				}
			}
		}
	}
	if h, m, s, us, e := clock.Parts(api.DayMicro); h != 24 || m != 0 || s != 0 || us != 0 || e != api.OK {
		t.Error("Parts of a day's end", h, m, s, us, e)
	}
	if h, m, s, us, e := clock.Parts(api.DayMicro - 1); h != 23 || m != 59 || s != 59 || us != 999999 || e != api.OK {
		t.Error("Parts ahead of a day's end", h, m, s, us, e)
	}
}

// P3.1, P3.2: what is no time of a day has neither parts nor a text.
func TestNoTime(t *testing.T) {
	for _, n := range append(far(), -1, -2, api.DayMicro+1, 2*api.DayMicro, -api.DayMicro) {
		if h, m, s, us, e := clock.Parts(n); h != 0 || m != 0 || s != 0 || us != 0 || e != api.ErrRange {
			t.Error("Parts", n, h, m, s, us, e)
		}
		if s, e := clock.Text(n); s != "" || e != api.ErrRange {
			t.Error("Text", n, s, e)
		}
	}
}

// P3.2.
func TestTwo(t *testing.T) {
	for n, want := range map[int64]string{0: "00", 5: "05", 9: "09", 10: "10", 59: "59", 99: "99", 100: "100", 1234: "1234",
		-1: "-01", -5: "-05", -9: "-09", -10: "-10", -100: "-100",
		math.MaxInt64: "9223372036854775807", math.MinInt64: "-9223372036854775808"} {
		if s := clock.Two(n); s != want {
			t.Error("Two", n, s, want)
		}
	}
}

// P3.2: of each number of microseconds, against the library's digits.
func TestFraction(t *testing.T) {
	for us := int64(1); us < 1000000; us++ {
		want := "." + strings.TrimRight(fmt.Sprintf("%06d", us), "0")
		if s := clock.Fraction(us); s != want {
			t.Fatal("Fraction", us, s, want)
		}
	}
	for _, us := range append(far(), 0, -1, -500000, -999999, 1000000, 1000001, 1500000) {
		if s := clock.Fraction(us); s != "" {
			t.Error("Fraction", us, s)
		}
	}
}

// P3.2, P3.6: each second's text, with and without a fraction, and back.
func TestText(t *testing.T) {
	for sec := range int64(86400) {
		for _, us := range []int64{0, sec*11 + 1, 500} {
			want := fmt.Sprintf("%02d:%02d:%02d", sec/3600, sec/60%60, sec%60)
			if us > 0 {
				want += "." + strings.TrimRight(fmt.Sprintf("%06d", us), "0")
			}
			s, e := clock.Text(sec*1000000 + us)
			if s != want || e != api.OK {
				t.Fatal("Text", sec, us, s, e)
			}
			if n, e := clock.Read(s); n != sec*1000000+us || e != api.OK {
				t.Fatal("Read", s, n, e)
			}
		}
	}
	for n, want := range map[int64]string{api.DayMicro: "24:00:00", api.DayMicro - 1: "23:59:59.999999", 3723000500: "01:02:03.0005"} {
		if s, e := clock.Text(n); s != want || e != api.OK {
			t.Error("Text", n, s, e)
		}
		if back, e := clock.Read(want); back != n || e != api.OK {
			t.Error("Read", want, back, e)
		}
	}
}

var timeForm = regexp.MustCompile(`\A([0-9]{1,2}):([0-9]{2})(?::([0-9]{2})(?:\.([0-9]{1,6}))?)?\z`)

// wantTime is what Read must answer, by a pattern of the library.
func wantTime(s string) (int64, api.Errno) {
	m := timeForm.FindStringSubmatch(s)
	if m == nil {
		return 0, api.ErrLiteral
	}
	h, _ := strconv.Atoi(m[1])
	min, _ := strconv.Atoi(m[2])
	sec, _ := strconv.Atoi("0" + m[3])
	us, _ := strconv.Atoi((m[4] + "000000")[:6])
	t := int64(((h*60+min)*60+sec)*1000000 + us)
	if h > 24 || min > 59 || sec > 59 || t > api.DayMicro {
		return 0, api.ErrRange
	}
	return t, api.OK
}

func checkRead(t *testing.T, s string) {
	t.Helper()
	want, wantErr := wantTime(s)
	if n, e := clock.Read(s); n != want || e != wantErr {
		t.Fatalf("Read(%q) is %d, %d, not %d, %d", s, n, e, want, wantErr)
	}
}

var offsetForm = regexp.MustCompile(`\A([+-])(?:([0-9]{1,2})(?::([0-9]{2})(?::([0-9]{2}))?)?|([0-9]{2})([0-9]{2}))\z`)

// wantOffset is what ReadOffset must answer.
func wantOffset(s string) (int64, api.Errno) {
	m := offsetForm.FindStringSubmatch(s)
	if m == nil {
		return 0, api.ErrLiteral
	}
	h, _ := strconv.Atoi(m[2] + m[5])
	min, _ := strconv.Atoi("0" + m[3] + m[6])
	sec, _ := strconv.Atoi("0" + m[4])
	n := int64(h*3600 + min*60 + sec)
	if min > 59 || sec > 59 || n > mostOffset {
		return 0, api.ErrRange
	}
	if m[1] == "-" {
		n = -n
	}
	return n, api.OK
}

func checkReadOffset(t *testing.T, s string) {
	t.Helper()
	want, wantErr := wantOffset(s)
	if n, e := clock.ReadOffset(s); n != want || e != wantErr {
		t.Fatalf("ReadOffset(%q) is %d, %d, not %d, %d", s, n, e, want, wantErr)
	}
}

// eachText goes through all texts of up to so many of the letters.
func eachText(letters string, most int, f func(string)) {
	f("")
	if most == 0 {
		return
	}
	for _, c := range letters {
		eachText(letters, most-1, func(s string) { f(string(c) + s) })
	}
}

// P3.3, P3.4: all short texts.
func TestReadShortTexts(t *testing.T) {
	eachText("025:.", 6, func(s string) { checkRead(t, s) })
	eachText("06:+-", 5, func(s string) { checkReadOffset(t, s) })
	eachText("016:.", 5, func(s string) {
		checkReadOffset(t, "+"+s)
		checkReadOffset(t, "-"+s)
	})
}

// eachNear goes through the texts that are one byte away from s: less, more, another.
func eachNear(s string, f func(string)) {
	f(s)
	for i := range len(s) + 1 {
		for b := range 256 {
			one := string([]byte{byte(b)})
			f(s[:i] + one + s[i:])
			if i < len(s) {
				f(s[:i] + one + s[i+1:])
			}
		}
		if i < len(s) {
			f(s[:i] + s[i+1:])
		}
	}
}

// P3.3: texts of each length that a part may have or not, and all that is one byte away from them.
func TestReadLongTexts(t *testing.T) {
	hours := []string{"", "0", "7", "23", "24", "25", "99", "000", "123"}
	sixties := []string{"", "0", "00", "59", "60", "99", "000"}
	fractions := []string{"", ".", ".0", ".1", ".12", ".000001", ".999999", ".0000001", ".9999999", ".0000000000000000000000000001", ".1.2", ".1:2"}
	for _, h := range hours {
		for _, m := range sixties {
			for _, f := range fractions {
				checkRead(t, h+":"+m+f)
				for _, s := range sixties {
					checkRead(t, h+":"+m+":"+s+f)
					checkRead(t, h+":"+m+"."+s+f)
				}
			}
		}
	}
	for _, s := range []string{"1:02", "23:59", "1:02:03", "23:59:59", "24:00:00", "24:00:00.000000", "23:59:59.999999", "9:08:07.5"} {
		eachNear(s, func(s string) { checkRead(t, s) })
	}
}

// P3.3, P3.4: what is no digit of ASCII, no rune, or far too long is none.
func TestReadWrongTexts(t *testing.T) {
	for _, s := range []string{" 1:02", "1:02 ", "1:02\n", "1:02\x00", "+1:02", "-1:02", "1:-2", "1:+2", "٠١:٠٢", "1:0２", "1：02",
		"1:0\xff", "\xff", "\xc3\x28:00", "0x:01", "1e:00", "1:02:03,5", "1:02:03:04", "1:02:03:04:05", "12:34.5",
		strings.Repeat("0", 100) + "1:02", "1:02:03." + strings.Repeat("0", 1000), strings.Repeat("1:", 10000), strings.Repeat("9", 100000)} {
		if n, e := clock.Read(s); n != 0 || e != api.ErrLiteral {
			t.Errorf("Read(%q) is %d, %d", s, n, e)
		}
		if n, e := clock.ReadOffset("+" + s); n != 0 || e != api.ErrLiteral {
			t.Errorf("ReadOffset(%q) is %d, %d", "+"+s, n, e)
		}
	}
	for _, s := range []string{"", "+", "-", "1", "0530", "05:30", "++1", "+-1", "--1", "−1", "\xff", "\xff1", " +1", "+ 1", "+1 ", "+123", "+012",
		"+1:2", "+1:234", "+12345", "+123456", "+053000", "+0530:00", "+1:", "+:30", "+1:00:", "+1:00:0", "+1:00:000", "+1:00:00:00", "+1.5", "+1:00.5", "+1:00:00.5",
		"+12.34", "+1:02.03", "+12.34:56"} {
		if n, e := clock.ReadOffset(s); n != 0 || e != api.ErrLiteral {
			t.Errorf("ReadOffset(%q) is %d, %d", s, n, e)
		}
	}
}

// P3.4, P3.6: all offsets, and back.
func TestOffset(t *testing.T) {
	for sec := int64(-mostOffset); sec <= mostOffset; sec++ {
		sign, size := "+", sec
		if sec < 0 {
			sign, size = "-", -sec
		}
		want := fmt.Sprintf("%s%02d:%02d:%02d", sign, size/3600, size/60%60, size%60)
		if size%3600 == 0 {
			want = want[:3]
		} else if size%60 == 0 {
			want = want[:6]
		}
		s, e := clock.Offset(sec)
		if s != want || e != api.OK {
			t.Fatal("Offset", sec, s, e, want)
		}
		if n, e := clock.ReadOffset(s); n != sec || e != api.OK {
			t.Fatal("ReadOffset", s, n, e)
		}
	}
	for _, sec := range append(far(), -mostOffset-1, mostOffset+1) {
		if s, e := clock.Offset(sec); s != "" || e != api.ErrRange {
			t.Error("Offset", sec, s, e)
		}
	}
}

// P3.4: the examples, by hand.
func TestOffsetByHand(t *testing.T) {
	for sec, want := range map[int64]string{0: "+00", 1: "+00:00:01", -1: "-00:00:01", 60: "+00:01", -60: "-00:01", 3600: "+01", -3600: "-01",
		3601: "+01:00:01", -3601: "-01:00:01", 3660: "+01:01", 19800: "+05:30", 50400: "+14", 54000: "+15", 57599: "+15:59:59", -57599: "-15:59:59", 57540: "+15:59"} {
		if s, e := clock.Offset(sec); s != want || e != api.OK {
			t.Error("Offset", sec, s, e)
		}
	}
}

// P3.4: every length and every edge of the parts, and all that is one byte away.
func TestReadOffset(t *testing.T) {
	for s, want := range map[string]int64{"+0": 0, "-0": 0, "-00": 0, "-0000": 0, "+1": 3600, "-1": -3600, "+01": 3600, "+15": 54000, "-0530": -19800, "+1559": 57540,
		"+1:30": 5400, "-1:30": -5400, "+01:30": 5400, "+1:02:03": 3723, "-1:02:03": -3723, "+15:59:59": 57599, "-15:59:59": -57599} {
		if n, e := clock.ReadOffset(s); n != want || e != api.OK {
			t.Error("ReadOffset", s, n, e)
		}
		eachNear(s, func(s string) { checkReadOffset(t, s) })
	}
	for _, s := range []string{"+16", "-16", "+99", "-99", "+1600", "-1600", "+16:00", "+16:00:00", "-16:00:00", "+0060", "+0:60", "+0:00:60", "-0:60:00", "+0:99:99", "+9999", "+1560"} {
		if n, e := clock.ReadOffset(s); n != 0 || e != api.ErrRange {
			t.Error("ReadOffset", s, n, e)
		}
	}
	for n := range 10000 {
		checkReadOffset(t, fmt.Sprintf("+%04d", n))
		checkReadOffset(t, fmt.Sprintf("-%04d", n))
		checkReadOffset(t, fmt.Sprintf("+%02d:%02d", n/100, n%100))
		checkReadOffset(t, fmt.Sprintf("-%d:00:%02d", n/100, n%100))
		checkRead(t, fmt.Sprintf("%02d:%02d", n/100, n%100))
		checkRead(t, fmt.Sprintf("%d:00:%02d", n/100, n%100))
		checkRead(t, fmt.Sprintf("23:%02d:%02d.5", n/100, n%100))
		checkRead(t, fmt.Sprintf("24:%02d:%02d", n/100, n%100))
	}
}

// wantLong is Long's text, by numbers of any size.
func wantLong(us int64) string {
	size := new(big.Int).Abs(big.NewInt(us))
	sec, rest := new(big.Int).QuoRem(size, big.NewInt(1000000), new(big.Int))
	s := sec.Int64()
	text := fmt.Sprintf("%02d:%02d:%02d", s/3600, s/60%60, s%60)
	if rest.Sign() != 0 {
		text += "." + strings.TrimRight(fmt.Sprintf("%06d", rest.Int64()), "0")
	}
	if us < 0 {
		text = "-" + text
	}
	return text
}

// P3.5.
func TestLong(t *testing.T) {
	for us, want := range map[int64]string{0: "00:00:00", 1: "00:00:00.000001", -1: "-00:00:00.000001", -500000: "-00:00:00.5", api.DayMicro: "24:00:00", 90000000000: "25:00:00",
		-90000000000: "-25:00:00", 360000000000: "100:00:00", math.MaxInt64: "2562047788:00:54.775807", math.MinInt64: "-2562047788:00:54.775808"} {
		if s := clock.Long(us); s != want {
			t.Error("Long", us, s, want)
		}
	}
	rnd := rand.New(rand.NewSource(3))
	for range 100000 {
		us := int64(rnd.Uint64()) >> rnd.Intn(64)
		if s := clock.Long(us); s != wantLong(us) {
			t.Fatal("Long", us, s, wantLong(us))
		}
	}
	for _, us := range far() {
		if s := clock.Long(us); s != wantLong(us) {
			t.Error("Long", us, s, wantLong(us))
		}
	}
}
