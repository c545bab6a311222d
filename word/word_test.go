package word_test

import (
	"math/big"
	"math/rand"
	"regexp"
	"slices"
	"strings"
	"testing"
	"unicode/utf8"

	"computus/api"
	"computus/word"
)

// latin is a text with a rune for each byte, so that a pattern can see bytes.
func latin(s string) string {
	var b strings.Builder
	for i := range len(s) {
		b.WriteRune(rune(s[i]))
	}
	return b.String()
}

// bytesOf is how many bytes a text had that latin made.
func bytesOf(l string) int { return utf8.RuneCountInString(l) }

// many is the runes of two to four bytes, as bytes: the table of the Unicode standard.
const many = `[\x{c2}-\x{df}][\x{80}-\x{bf}]` +
	`|\x{e0}[\x{a0}-\x{bf}][\x{80}-\x{bf}]` +
	`|[\x{e1}-\x{ec}\x{ee}\x{ef}][\x{80}-\x{bf}]{2}` +
	`|\x{ed}[\x{80}-\x{9f}][\x{80}-\x{bf}]` +
	`|\x{f0}[\x{90}-\x{bf}][\x{80}-\x{bf}]{2}` +
	`|[\x{f1}-\x{f3}][\x{80}-\x{bf}]{3}` +
	`|\x{f4}[\x{80}-\x{8f}][\x{80}-\x{bf}]{2}`

var (
	rightForm = regexp.MustCompile(`\A(?:[\t\n\r -~]|` + many + `)*`)
	partForm  = regexp.MustCompile(`([0-9]+)|((?:[A-Za-z_]|` + many + `)+)|([!-~])`)
)

// wantSplit is what Split must answer, by patterns of bytes.
func wantSplit(s string) ([]word.Part, int, api.Errno) {
	if len(s) > 2048 {
		return nil, 0, api.ErrSize
	}
	l := latin(s)
	if right := bytesOf(rightForm.FindString(l)); right < len(s) {
		return nil, right, api.ErrForm
	}
	var parts []word.Part
	for _, m := range partForm.FindAllStringSubmatchIndex(l, -1) {
		begin := bytesOf(l[:m[0]])
		p := word.Part{Text: s[begin : begin+bytesOf(l[m[0]:m[1]])], At: begin}
		for kind := 1; kind <= 3; kind++ {
			if m[2*kind] >= 0 {
				p.Kind = kind
			}
		}
		parts = append(parts, p)
	}
	return parts, 0, api.OK
}

func checkSplit(t *testing.T, s string) {
	t.Helper()
	want, wantAt, wantErr := wantSplit(s)
	l, at, e := word.Split(s)
	if !slices.Equal(l, want) || at != wantAt || e != wantErr {
		t.Fatalf("Split(%q) is %v, %d, %d, not %v, %d, %d", s, l, at, e, want, wantAt, wantErr)
	}
	if e == api.OK {
		checkWhole(t, s, l)
	}
}

// checkWhole: P5.4, the parts and blanks are the text.
func checkWhole(t *testing.T, s string, l []word.Part) {
	t.Helper()
	rest := []byte(s)
	for _, p := range l {
		if p.Text == "" || p.At < 0 || p.At+len(p.Text) > len(s) || s[p.At:p.At+len(p.Text)] != p.Text {
			t.Fatalf("Split(%q) has a part %v that is not there", s, p)
		}
		copy(rest[p.At:], strings.Repeat(" ", len(p.Text)))
	}
	if strings.Trim(string(rest), " \t\n\r") != "" {
		t.Fatalf("Split(%q) leaves %q", s, rest)
	}
}

// eachText goes through all texts of up to so many of the pieces.
func eachText(pieces []string, most int, f func(string)) {
	f("")
	if most == 0 {
		return
	}
	for _, p := range pieces {
		eachText(pieces, most-1, func(s string) { f(p + s) })
	}
}

// eachNear goes through the texts that are one byte away from s: less, more, another.
func eachNear(s string, f func(string)) {
	f(s)
	for i := range len(s) + 1 {
		for b := range 256 {
			one := string([]byte{byte(b)})
			f(s[:i] + one + s[i:])
			if i < len(s) {
				f(s[:i] + one + s[i+1:])
			}
		}
		if i < len(s) {
			f(s[:i] + s[i+1:])
		}
	}
}

// pieces are bytes and runes of each kind, whole ones and broken ones.
func pieces() []string {
	return []string{"0", "9", "a", "Z", "_", "-", "'", " ", "\t", "\n", "\r", "\x00", "\x1f", "\x7f", "\x80", "\xff",
		"\u0080", "\u00e9", "\ufffd", "\u65e5", "\U0001f600", "\xc3", "\xe6\x97", "\xed\xa0\x80"}
}

// P5.1: by hand.
func TestSplitByHand(t *testing.T) {
	for s, want := range map[string][]word.Part{
		"":                   nil,
		" \t\n\r":            nil,
		"12jan 3:04":         {{1, "12", 0}, {2, "jan", 2}, {1, "3", 6}, {3, ":", 7}, {1, "04", 8}},
		"a_B\u00e9z9":        {{2, "a_B\u00e9z", 0}, {1, "9", 6}},
		"<=>":                {{3, "<", 0}, {3, "=", 1}, {3, ">", 2}},
		"--":                 {{3, "-", 0}, {3, "-", 1}},
		"1 2":                {{1, "1", 0}, {1, "2", 2}},
		"a\tb":               {{2, "a", 0}, {2, "b", 2}},
		"a\nb\rc":            {{2, "a", 0}, {2, "b", 2}, {2, "c", 4}},
		"\ufffd":             {{2, "\ufffd", 0}},
		"\u0080\u00a0\u2028": {{2, "\u0080\u00a0\u2028", 0}},
		"\u0663":             {{2, "\u0663", 0}},
		"\U0010ffff:\u65e5":  {{2, "\U0010ffff", 0}, {3, ":", 4}, {2, "\u65e5", 5}},
		"@Z[`a{/0:9~!":       {{3, "@", 0}, {2, "Z", 1}, {3, "[", 2}, {3, "`", 3}, {2, "a", 4}, {3, "{", 5}, {3, "/", 6}, {1, "0", 7}, {3, ":", 8}, {1, "9", 9}, {3, "~", 10}, {3, "!", 11}},
	} {
		if l, at, e := word.Split(s); !slices.Equal(l, want) || at != 0 || e != api.OK {
			t.Errorf("Split(%q) is %v, %d, %d", s, l, at, e)
		}
	}
	for s, want := range map[string]int{"\x00": 0, "a\x00": 1, " \x1f": 1, "ab\x7f": 2, "\x80": 0, "12\x80": 2, "ab\xff": 2, "\u00e9\x01": 2, "\v": 0, "\f": 0, "a\b": 1,
		"\ufffd\xff": 3, "\xff\ufffd": 0, "\ufffd\ufffd\xef\xbf": 6, "\xef\xbf": 0, "a\xe6\x97": 1, "\xc0\x80": 0, "\xe0\x80\x80": 0, "\xf0\x80\x80\x80": 0, "\xed\xa0\x80": 0, "\xed\xbf\xbf": 0,
		"\xf4\x90\x80\x80": 0, "\xf5\x80\x80\x80": 0, "\x01\xff": 0, "\xff\x01": 0, "\u00e9\xa9": 2} {
		if l, at, e := word.Split(s); l != nil || at != want || e != api.ErrForm {
			t.Errorf("Split(%q) is %v, %d, %d", s, l, at, e)
		}
	}
}

// P5.1: each rune, alone and within letters.
func TestSplitEachRune(t *testing.T) {
	for c := rune(0); c <= utf8.MaxRune; c++ {
		if !utf8.ValidRune(c) {
			continue
		}
		s := "a" + string(c)
		l, at, e := word.Split(s)
		ok := e == api.OK && at == 0
		switch {
		case c < 128:
			checkSplit(t, string(c))
			checkSplit(t, s)
		case !ok || len(l) != 1 || l[0] != word.Part{Kind: word.Letters, Text: s}:
			t.Fatalf("Split(%q) is %v, %d, %d", s, l, at, e)
		}
	}
}

// P5.1, P5.4: all texts of two bytes, those at the edges of UTF-8, all of few pieces, and what is near to right texts.
func TestSplitEachText(t *testing.T) {
	for a := range 256 {
		checkSplit(t, string([]byte{byte(a)}))
		for b := range 256 {
			checkSplit(t, string([]byte{byte(a), byte(b)}))
		}
	}
	follow := []string{"\x7f", "\x80", "\x8f", "\x90", "\x9f", "\xa0", "\xbf", "\xc0", "a"}
	for _, lead := range []string{"\xbf", "\xc0", "\xc1", "\xc2", "\xdf", "\xe0", "\xe1", "\xec", "\xed", "\xee", "\xef", "\xf0", "\xf1", "\xf3", "\xf4", "\xf5", "\xff"} {
		eachText(follow, 3, func(s string) {
			checkSplit(t, lead+s)
			checkSplit(t, "9"+lead+s+"-")
		})
	}
	eachText(pieces(), 3, func(s string) { checkSplit(t, s) })
	for _, s := range []string{"12jan 3:04", "a1\u00e9_ <=\u65e5", "2024-03-31T01:30 \U0001f600", "\ufffd\ufffd"} {
		eachNear(s, func(s string) { checkSplit(t, s) })
	}
}

// P5.1: a text may have 2048 bytes; of a longer one nothing else is told.
func TestSplitSizes(t *testing.T) {
	for _, one := range []string{"a", "7", "-", " ", "_", "\u00e9", "\u65e5", "\U0001f600", "\x00", "\xff", "a1", "- "} {
		most := strings.Repeat(one, 2048/len(one))
		checkSplit(t, most)
		checkSplit(t, most+one)
		checkSplit(t, strings.Repeat(" ", 2048-len(most))+most)
		checkSplit(t, strings.Repeat(" ", 2049-len(most))+most)
	}
	if l, at, e := word.Split(strings.Repeat("-", 2048)); len(l) != 2048 || at != 0 || e != api.OK {
		t.Error("Split of 2048 signs", len(l), at, e)
	}
	if l, at, e := word.Split(strings.Repeat("a", 2047) + "\xff"); l != nil || at != 2047 || e != api.ErrForm {
		t.Error("Split of 2048 bytes", len(l), at, e)
	}
	for _, s := range []string{strings.Repeat("a", 2049), "\xff" + strings.Repeat("a", 2048), strings.Repeat(" ", 2049), strings.Repeat("\x00", 1<<20)} {
		if l, at, e := word.Split(s); l != nil || at != 0 || e != api.ErrSize {
			t.Error("Split of", len(s), "bytes", len(l), at, e)
		}
	}
}

// P5.5: the parts of two texts with a blank between them.
func TestSplitOfTwo(t *testing.T) {
	var right []string
	eachText([]string{"0", "9", "a", "_", "-", " ", "\n", "\ufffd", "\U0001f600"}, 2, func(s string) { right = append(right, s) })
	right = append(right, strings.Repeat("a", 2040), strings.Repeat("1-", 1020))
	for _, a := range right {
		for _, b := range right {
			for _, blank := range []string{" ", "\t", "\n", "\r"} {
				if len(a)+1+len(b) <= 2048 {
					checkTwo(t, a, blank, b)
				}
			}
		}
	}
}

func checkTwo(t *testing.T, a, blank, b string) {
	t.Helper()
	want, _, _ := word.Split(a)
	second, _, _ := word.Split(b)
	for _, p := range second {
		p.At += len(a) + 1
		want = append(want, p)
	}
	if l, at, e := word.Split(a + blank + b); !slices.Equal(l, want) || at != 0 || e != api.OK {
		t.Fatalf("Split(%q) is %v, %d, %d, not %v", a+blank+b, l, at, e, want)
	}
}

// An answer is new memory each time.
func TestSplitAnswersNewLists(t *testing.T) {
	const s = "12jan 3:04"
	l, _, _ := word.Split(s)
	for i := range l {
		l[i] = word.Part{Kind: 7, Text: "no", At: -1}
	}
	_ = append(l[:0], word.Part{Text: "no"})
	checkSplit(t, s)
}

// wantLower is the text with A to Z exchanged, byte by byte.
func wantLower(s string) string {
	const great, small = "ABCDEFGHIJKLMNOPQRSTUVWXYZ", "abcdefghijklmnopqrstuvwxyz"
	b := []byte(s)
	for i, c := range b {
		if at := strings.IndexByte(great, c); at >= 0 {
			b[i] = small[at]
		}
	}
	return string(b)
}

func checkLower(t *testing.T, s string) {
	t.Helper()
	if l := word.Lower(s); l != wantLower(s) {
		t.Fatalf("Lower(%q) is %q", s, l)
	}
}

// P5.2.
func TestLower(t *testing.T) {
	for s, want := range map[string]string{"": "", "AbZ[\u00c9": "abz[\u00c9", "@A`a{Z": "@a`a{z", "\xffA\xc3": "\xffa\xc3", "\ufffdX\xff": "\ufffdx\xff", "\u0130\u212a\u017f": "\u0130\u212a\u017f", "\x00\x7f\x80 Q": "\x00\x7f\x80 q",
		"\xc3A\xa9": "\xc3a\xa9", "\u00e9A\U0001f600B": "\u00e9a\U0001f600b"} {
		if l := word.Lower(s); l != want {
			t.Errorf("Lower(%q) is %q", s, l)
		}
	}
	for a := range 256 {
		for b := range 256 {
			checkLower(t, string([]byte{byte(a), byte(b)}))
		}
	}
	eachText(pieces(), 3, func(s string) { checkLower(t, s) })
	r := rand.New(rand.NewSource(5))
	for range 1000 {
		b := make([]byte, r.Intn(100))
		r.Read(b)
		checkLower(t, string(b))
	}
	checkLower(t, strings.Repeat("Ab\xff", 100000))
}

// P5.2.
func TestSame(t *testing.T) {
	for a := range 256 {
		for b := range 256 {
			one, two := string([]byte{byte(a)}), string([]byte{byte(b)})
			if word.Same(one, two) != (wantLower(one) == wantLower(two)) {
				t.Fatalf("Same(%q, %q)", one, two)
			}
		}
	}
	for _, l := range [][2]string{{"", ""}, {"uTc", "UTC"}, {"CE\u00c9t", "ce\u00c9T"}, {"A\xff", "a\xff"}, {"\ufffd", "\ufffd"}, {"x y", "X Y"}} {
		if !word.Same(l[0], l[1]) || !word.Same(l[1], l[0]) {
			t.Errorf("Same(%q, %q)", l[0], l[1])
		}
	}
	for _, l := range [][2]string{{"", "a"}, {"UTC", "UT"}, {"utc", "utc "}, {"\u00e9", "\u00c9"}, {"\xff", "\ufffd"}, {"\xff", "\xfe"}, {"k", "\u212a"}, {"s", "\u017f"}, {"a", "\x01"}, {"[", "{"}, {"@", "`"}, {"ss", "\u00df"}} {
		if word.Same(l[0], l[1]) || word.Same(l[1], l[0]) {
			t.Errorf("Same(%q, %q)", l[0], l[1])
		}
	}
}

var digits = regexp.MustCompile(`\A[0-9]+\z`)

func checkNumber(t *testing.T, s string) {
	t.Helper()
	want, wantErr := int64(0), api.ErrLiteral
	if digits.MatchString(s) {
		n, _ := new(big.Int).SetString(s, 10)
		wantErr = api.ErrRange
		if n.IsInt64() {
			want, wantErr = n.Int64(), api.OK
		}
	}
	if n, e := word.Number(s); n != want || e != wantErr {
		t.Fatalf("Number(%q) is %d, %d, not %d, %d", s, n, e, want, wantErr)
	}
}

// P5.2: what is no number at all is told ahead of one that is too large.
func TestNumber(t *testing.T) {
	noughts := strings.Repeat("0", 10000)
	for s, want := range map[string]int64{"0": 0, "00": 0, "007": 7, "9": 9, "10": 10, "9223372036854775807": 1<<63 - 1, noughts + "12": 12, noughts + "9223372036854775807": 1<<63 - 1} {
		if n, e := word.Number(s); n != want || e != api.OK {
			t.Error("Number", s, n, e)
		}
		checkNumber(t, s)
	}
	for _, s := range []string{"9223372036854775808", "9223372036854775810", "9223372036854775817", "10000000000000000000", "18446744073709551616", "18446744073709551617", "99999999999999999999", noughts + "9223372036854775808", "1" + noughts} {
		if n, e := word.Number(s); n != 0 || e != api.ErrRange {
			t.Error("Number", s, n, e)
		}
	}
	for _, s := range []string{"", " ", "+1", "-1", "1 ", " 1", "1.0", "1_0", "0x1", "1e3", "a", "\u0661", "\uff11", "1\x00", "1\xff", "\xff", "/", ":", "99999999999999999999x", "9223372036854775808 ", "x9223372036854775808", "1" + noughts + "-"} {
		if n, e := word.Number(s); n != 0 || e != api.ErrLiteral {
			t.Error("Number", s, n, e)
		}
	}
	eachText([]string{"0", "1", "9", "-", "/", ":", " ", "\xff", "\u00e9"}, 4, func(s string) { checkNumber(t, s) })
	for _, s := range []string{"7", "2024", "922337203685477580", "9223372036854775807", "09223372036854775807"} {
		eachNear(s, func(s string) { checkNumber(t, s) })
	}
}

// P5.3.
func TestKnown(t *testing.T) {
	l := []string{"year", "Mon", "MONTH", "", "mon", "\u00e9", "a\xff", "Year"}
	for s, want := range map[string]int{"year": 0, "YEAR": 0, "yEaR": 0, "mon": 1, "MON": 1, "month": 2, "": 3, "\u00e9": 5, "A\xff": 6,
		"yea": -1, "years": -1, "mo": -1, " ": -1, "\u00c9": -1, "a\ufffd": -1, "a": -1, "\xff": -1} {
		if at := word.Known(s, l); at != want {
			t.Errorf("Known(%q) is %d", s, at)
		}
	}
	for _, s := range []string{"", "a"} {
		if word.Known(s, nil) != -1 || word.Known(s, []string{}) != -1 {
			t.Error("Known among none", s)
		}
	}
}

// P5.3.
func TestShort(t *testing.T) {
	l := []string{"ab", "Abcd", "abcde", "XYZ", "a\xffbc", "\u65e5x", "", "ABCDEF", "xyz"}
	for s, want := range map[string]int{"abc": 1, "ABC": 1, "aBcD": 1, "abcde": 2, "ABCDE": 2, "abcdef": 7, "abcdefg": -1, "xyz": 3, "XYZ": 3, "xyzz": -1,
		"A\xffB": 4, "a\xffbcd": -1, "a\ufffd": -1, "\u65e5": 5, "\u65e5X": 5, "\u65e5y": -1, "\u65e6": -1, "": -1, "a": -1, "ab": -1, "AB": -1, "xy": -1, "bcd": -1, "   ": -1} {
		if at := word.Short(s, l); at != want {
			t.Errorf("Short(%q) is %d", s, at)
		}
	}
	for _, s := range []string{"", "ab", "abc"} {
		if word.Short(s, nil) != -1 || word.Short(s, []string{}) != -1 || word.Short(s, []string{""}) != -1 {
			t.Error("Short among none", s)
		}
	}
	if word.Short("ab", []string{"ab", "abc"}) != -1 || word.Short("", []string{"", "a"}) != -1 {
		t.Error("Short of fewer than three bytes")
	}
}

// A list that is handed in is left as it was.
func TestListsAreLeft(t *testing.T) {
	l := []string{"January", "FEB", "\xffQ"}
	kept := slices.Clone(l)
	word.Known("feb", l)
	word.Short("janu", l)
	if !slices.Equal(l, kept) {
		t.Error("a list was changed", l)
	}
}

// firsts is each beginning of a name with three bytes at least, as it is, small, great and mixed.
func firsts(name string) []string {
	var l []string
	for n := 3; n <= len(name); n++ {
		s := name[:n]
		l = append(l, s, strings.ToLower(s), strings.ToUpper(s), strings.ToLower(s[:1])+strings.ToUpper(s[1:]))
	}
	return l
}

// checkNames: each name's beginnings tell it; what is near to them does not, but where it is another beginning.
func checkNames(t *testing.T, names []string, first, none int64, tell func(string) int64) {
	t.Helper()
	right := map[string]int64{}
	for i, name := range names {
		for _, s := range firsts(name) {
			right[strings.ToLower(s)] = first + int64(i)
			if n := tell(s); n != first+int64(i) {
				t.Errorf("%q is %d", s, n)
			}
		}
		for _, s := range []string{"", name[:1], name[:2], strings.ToUpper(name[:2]), name + " ", " " + name, name + "s", name + ".", name[1:], "x" + name[1:], name[:3] + "."} {
			if n := tell(s); n != none {
				t.Errorf("%q is %d", s, n)
			}
		}
	}
	for _, name := range names {
		eachNear(name[:3], func(s string) {
			want, ok := right[wantLower(s)]
			if !ok {
				want = none
			}
			if n := tell(s); n != want {
				t.Fatalf("%q is %d, not %d", s, n, want)
			}
		})
	}
}

// P5.3.
func TestMonth(t *testing.T) {
	checkNames(t, []string{"January", "February", "March", "April", "May", "June", "July", "August", "September", "October", "November", "December"}, 1, 0, word.Month)
	for s, want := range map[string]int64{"sept": 9, "ma": 0, "MAY": 5, "mar": 3, "jun": 6, "jul": 7, "ju": 0, "decembers": 0, "13": 0, "": 0, "\xff\xff\xff": 0, "m\u00e4r": 0} {
		if n := word.Month(s); n != want {
			t.Errorf("Month(%q) is %d", s, n)
		}
	}
}

// P5.3.
func TestDay(t *testing.T) {
	checkNames(t, []string{"Sunday", "Monday", "Tuesday", "Wednesday", "Thursday", "Friday", "Saturday"}, 0, -1, word.Day)
	for s, want := range map[string]int64{"TUE": 2, "x": -1, "su": -1, "sun": 0, "SAT": 6, "thurs": 4, "sundays": -1, "day": -1, "": -1, "\xff\xff\xff": -1} {
		if n := word.Day(s); n != want {
			t.Errorf("Day(%q) is %d", s, n)
		}
	}
}
