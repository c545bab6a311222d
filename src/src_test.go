package src_test

import (
	"math"
	"math/rand"
	"reflect"
	"regexp"
	"slices"
	"strconv"
	"strings"
	"testing"

	"computus/api"
	"computus/line"
	"computus/src"
	"computus/when"
)

// example is the document's own source.
const example = "Rule EU 1977 1980 - Apr Sun>=1 1:00u 1:00 S\n" +
	"Rule EU 1981 max - Mar lastSun 1:00u 1:00 S\n" +
	"Rule EU 1996 max - Oct lastSun 1:00u 0:00 -\n" +
	"Zone Europe/Berlin 0:53:28 - LMT 1893 Apr 1 0:00\n" +
	"1:00 EU CE%sT\n" +
	"Link Europe/Berlin Berlin\n"

// short is a pattern of one of the names, whole or cut to three letters at least.
func short(names ...string) string {
	var l []string
	for _, name := range names {
		for n := len(name); n >= 3; n-- {
			l = append(l, name[:n])
		}
	}
	return "(?i:" + strings.Join(l, "|") + ")"
}

var (
	month   = short("January", "February", "March", "April", "May", "June", "July", "August", "September", "October", "November", "December")
	weekday = short("Sunday", "Monday", "Tuesday", "Wednesday", "Thursday", "Friday", "Saturday")
)

// Patterns of the fields, with the edges of their numbers in them.
const (
	name     = `[A-Za-z][A-Za-z0-9_+/-]{0,31}`
	year     = `1[89][0-9]{2}|20[0-9]{2}|2100`
	day      = `(?:0?[1-9]|[12][0-9]|3[01])`
	rest     = `(?::[0-5][0-9](?::[0-5][0-9])?)?`
	noRest   = `(?::00(?::00)?)?`
	at       = `-|(?:[01]?[0-9]|2[0-3])` + rest + `[wsugz]?|24` + noRest + `[wsugz]?`
	someSave = `0?[01]` + rest + `|0?2` + noRest
	save     = `-|-00?` + noRest + `|` + someSave
	offset   = `-|-?(?:0?[0-9]|1[0-3])` + rest + `|-?14` + noRest
	letters  = `-|[A-Za-z0-9]{1,8}`
	plain    = `[A-Za-z0-9+-]`
	format   = plain + `+|` + plain + `+/` + plain + `+|` + plain + `*%[sz]` + plain + `*`
)

func on() string { return day + `|(?i:last)` + weekday + `|` + weekday + `[<>]=` + day }

// fields is a pattern of fields, parted by bytes 10, which are of none.
func fields(l ...string) string { return "(" + strings.Join(l, `)\n(`) + ")" }

var (
	ruleForm = regexp.MustCompile(`\A` + fields(`(?i:rule)`, name, year, `(?i:only|max)|`+year, `-`, month, on(), at, save, letters) + `\z`)
	linkForm = regexp.MustCompile(`\A` + fields(`(?i:link)`, name, name) + `\z`)
	zoneForm = regexp.MustCompile(`\A` + fields(`(?i:zone)`, name, `(?s:.*)`) + `\z`)
	eraForm  = regexp.MustCompile(`\A` + fields(offset, `-|`+someSave+`|`+name, format) + `(?:\n(` + year + `)(?:\n(` + month + `)(?:\n(` + on() + `)(?:\n(` + at + `))?)?)?)?\z`)
	nameForm = regexp.MustCompile(`\A` + name + `\z`)
)

func number(s string) int64 {
	n, _ := strconv.ParseInt(s, 10, 64)
	return n
}

func monthOf(s string) int64 {
	return int64(strings.Index("janfebmaraprmayjunjulaugsepoctnovdec", strings.ToLower(s[:3]))/3 + 1)
}

// span is the seconds of a field that is a save or an offset.
func span(s string) int64 {
	digits, below := strings.CutPrefix(s, "-")
	sum, unit := int64(0), int64(3600)
	for _, part := range strings.Split(digits, ":") {
		sum += number(part) * unit
		unit /= 60
	}
	if below {
		return -sum
	}
	return sum
}

func wantRule(text string) (src.Rule, bool) {
	m := ruleForm.FindStringSubmatch(text)
	if m == nil {
		return src.Rule{}, false
	}
	r := src.Rule{Name: m[2], From: number(m[3]), To: number(m[4]), Month: monthOf(m[6]), Save: span(m[9]), Letter: strings.TrimPrefix(m[10], "-")}
	switch strings.ToLower(m[4]) {
	case "only":
		r.To = r.From
	case "max":
		r.To = 1073741824
	}
	r.On, _ = when.ReadOn(m[7])
	r.At, _ = when.ReadAt(m[8])
	return r, r.To >= r.From
}

func wantEra(text string) (src.Era, bool) {
	m := eraForm.FindStringSubmatch(text)
	if m == nil || len(m[3]) > 24 {
		return src.Era{}, false
	}
	era := src.Era{Off: span(m[1]), Format: m[3]}
	switch {
	case m[2] == "-":
	case m[2][0] <= '9':
		era.Save = span(m[2])
	default:
		era.Rule = m[2]
	}
	if m[4] == "" {
		return era, true
	}
	u := src.Until{Year: number(m[4]), Month: 1, On: when.On{N: 1}, At: when.At{Kind: 'w'}}
	if m[5] != "" {
		u.Month = monthOf(m[5])
	}
	if m[6] != "" {
		u.On, _ = when.ReadOn(m[6])
	}
	if m[7] != "" {
		u.At, _ = when.ReadAt(m[7])
	}
	era.Until = u
	return era, true
}

// wanted is a source that is read by patterns.
type wanted struct {
	db    src.DB
	names []string // of zones and links
	eras  []int    // their lines
	open  bool
}

func (w *wanted) named(name string) bool {
	return slices.ContainsFunc(w.names, func(s string) bool { return strings.EqualFold(s, name) })
}

func (w *wanted) countRules(name string) int {
	n := 0
	for _, r := range w.db.Rules {
		if r.Name == name {
			n++
		}
	}
	return n
}

func (w *wanted) ruleNames() int {
	var l []string
	for _, r := range w.db.Rules {
		if !slices.Contains(l, r.Name) {
			l = append(l, r.Name)
		}
	}
	return len(l)
}

// first is the first error of several that may apply.
func first(form, size, name bool) api.Errno {
	switch {
	case form:
		return api.ErrForm
	case size:
		return api.ErrSize
	case name:
		return api.ErrName
	}
	return api.OK
}

func (w *wanted) take(n int, text string) api.Errno {
	rule, isRule := wantRule(text)
	link, zone := linkForm.FindStringSubmatch(text), zoneForm.FindStringSubmatch(text)
	era, isEra := wantEra(text)
	if zone != nil {
		era, isEra = wantEra(zone[3])
	}
	last := len(w.db.Zones) - 1
	e := api.ErrForm
	switch {
	case w.open && zone == nil:
		e = first(!isEra, len(w.db.Zones[last].Eras) > 11, false)
	case w.open:
	case isRule:
		ahead := w.countRules(rule.Name)
		if e = first(false, ahead > 15 || ahead == 0 && w.ruleNames() > 15, false); e == api.OK {
			w.db.Rules = append(w.db.Rules, rule)
		}
	case link != nil:
		if e = first(false, len(w.db.Links) > 15, w.named(link[3])); e == api.OK {
			w.db.Links = append(w.db.Links, src.Link{To: link[2], Name: link[3]})
			w.names = append(w.names, link[3])
		}
	case zone != nil:
		if e = first(!isEra, len(w.db.Zones) > 15, w.named(zone[2])); e == api.OK {
			w.db.Zones = append(w.db.Zones, src.Zone{Name: zone[2]})
			w.names = append(w.names, zone[2])
			last++
		}
	}
	if e == api.OK && isEra {
		w.db.Zones[last].Eras = append(w.db.Zones[last].Eras, era)
		w.eras = append(w.eras, n)
		w.open = era.Until.Year > 0
	}
	return e
}

// wantParse is what Parse must answer.
func wantParse(s string) (src.DB, int, api.Errno) {
	l, n, e := line.Split(s)
	if e != api.OK {
		return src.DB{}, n, e
	}
	var w wanted
	for _, one := range l {
		if e := w.take(one.N, strings.Join(one.Fields, "\n")); e != api.OK {
			return src.DB{}, one.N, e
		}
		n = one.N
	}
	if w.open {
		return src.DB{}, n, api.ErrForm
	}
	i := 0
	for _, z := range w.db.Zones {
		for _, era := range z.Eras {
			if era.Rule != "" && w.countRules(era.Rule) == 0 {
				return src.DB{}, w.eras[i], api.ErrName
			}
			i++
		}
	}
	return w.db, 0, api.OK
}

// sameDB: all the same; an empty list may be nil or not.
func sameDB(a, b src.DB) bool {
	return slices.Equal(a.Rules, b.Rules) && slices.Equal(a.Links, b.Links) &&
		slices.EqualFunc(a.Zones, b.Zones, func(a, b src.Zone) bool { return a.Name == b.Name && slices.Equal(a.Eras, b.Eras) })
}

// checkParse: P8.2, and of what is taken P8.4. It tells the error.
func checkParse(t *testing.T, s string) api.Errno {
	t.Helper()
	want, wantN, wantErr := wantParse(s)
	db, n, e := src.Parse(s)
	if !sameDB(db, want) || n != wantN || e != wantErr {
		t.Fatalf("Parse(%q) is %v, %d, %d, not %v, %d, %d", s, db, n, e, want, wantN, wantErr)
	}
	if e == api.OK {
		checkBack(t, db)
	}
	return e
}

// checkBack: P8.4, as it was written.
func checkBack(t *testing.T, db src.DB) {
	t.Helper()
	s := src.Text(db)
	if len(s) > api.MaxText {
		return
	}
	back, n, e := src.Parse(s)
	if !sameDB(back, db) || n != 0 || e != api.OK {
		t.Fatalf("Text(%v) is %q, read as %v, %d, %d", db, s, back, n, e)
	}
	if again := src.Text(back); again != s {
		t.Fatalf("Text(%v) is %q, then %q", db, s, again)
	}
}

// refused: Parse answers just that error and line.
func refused(t *testing.T, s string, wantN int, want api.Errno) {
	t.Helper()
	if db, n, e := src.Parse(s); !reflect.DeepEqual(db, src.DB{}) || n != wantN || e != want {
		t.Errorf("Parse(%q) is %v, %d, %d, not line %d, %d", s, db, n, e, wantN, want)
	}
	checkParse(t, s)
}

// taken: Parse takes it.
func taken(t *testing.T, s string) src.DB {
	t.Helper()
	db, n, e := src.Parse(s)
	if n != 0 || e != api.OK {
		t.Errorf("Parse(%q) is %d, %d", s, n, e)
	}
	checkParse(t, s)
	return db
}

// P8.1: each byte at each place, lengths, and texts of any kind.
func TestName(t *testing.T) {
	for _, s := range []string{"A", "z", "Europe/Berlin", "Etc/GMT+5", "a_b-c+d/9", "A//", "max", "Rule", strings.Repeat("Z", 32), "a" + strings.Repeat("/", 31)} {
		if !src.Name(s) {
			t.Errorf("Name(%q) is false", s)
		}
	}
	for _, s := range []string{"", "-", "_a", "+a", "/a", "9a", " a", "a ", "a b", "a.b", "a%s", "\u00e9", "a\u00e9", "a\xff", "a\x00", "a\n", "\u0410", "a\u0663", "a\u212a", strings.Repeat("Z", 33), strings.Repeat("a", 100000)} {
		if src.Name(s) {
			t.Errorf("Name(%q) is true", s)
		}
	}
	for b := range 256 {
		c := string([]byte{byte(b)})
		for _, s := range []string{c, "a" + c, c + "a", "a" + c + "a", strings.Repeat("a", 31) + c, strings.Repeat("a", 32) + c} {
			if src.Name(s) != nameForm.MatchString(s) {
				t.Errorf("Name(%q) is %t", s, src.Name(s))
			}
		}
	}
	for c := rune(128); c < 0x20000; c++ {
		if src.Name("a"+string(c)) || src.Name(string(c)) {
			t.Errorf("Name of the rune %x", c)
		}
	}
}

// P8.1: by hand.
func TestFormatByHand(t *testing.T) {
	for _, c := range []struct {
		f      string
		save   int64
		letter string
		off    int64
		want   string
	}{
		{"CE%sT", 3600, "S", 7200, "CEST"},
		{"CE%sT", 0, "", 3600, "CET"},
		{"%s", 0, "ABC", 0, "ABC"},
		{"%s%s", 0, "A", 0, "A%s"},
		{"a%sb%zc", 0, "x", 3600, "axb%zc"},
		{"a%zb%sc", 0, "x", 3600, "a%zbxc"},
		{"%s", 0, "%s", 0, "%s"},
		{"%s%s", 0, "%s", 0, "%s%s"},
		{"%s", 0, "%z", 0, "%z"},
		{"%s", 0, "/", 0, "/"},
		{"%z", 0, "", -12600, "-0330"},
		{"%z", 0, "", 0, "+00"},
		{"%z", 0, "", -1, "-000001"},
		{"%z", 0, "", 1, "+000001"},
		{"%z", 0, "", 60, "+0001"},
		{"%z", 0, "", -60, "-0001"},
		{"%z", 0, "", 3600, "+01"},
		{"%z", 0, "", 3601, "+010001"},
		{"%z", 0, "", 3660, "+0101"},
		{"%z", 0, "", -3661, "-010101"},
		{"%z", 0, "", 50400, "+14"},
		{"%z", 0, "", 359999, "+995959"},
		{"%z", 0, "", 360000, "+995959"},
		{"%z", 0, "", -359999, "-995959"},
		{"%z", 0, "", -360000, "-995959"},
		{"%z", 0, "", 356400, "+99"},
		{"%z", 0, "", math.MaxInt64, "+995959"},
		{"%z", 0, "", math.MinInt64, "-995959"},
		{"a%zb%z", 3600, "S", 3600, "a+01b%z"},
		{"GMT/BST", 3600, "", 3600, "BST"},
		{"GMT/BST", 0, "", 0, "GMT"},
		{"GMT/BST", -1, "", 0, "BST"},
		{"GMT/BST", math.MinInt64, "", 0, "BST"},
		{"a/b/c", 0, "", 0, "a"},
		{"a/b/c", 1, "", 0, "b/c"},
		{"/", 0, "x", 0, ""},
		{"/", 1, "x", 0, ""},
		{"%s/%z", 0, "x", 0, "%s"},
		{"%s/%z", 1, "x", 0, "%z"},
		{"", 0, "x", 0, ""},
		{"", 1, "x", 1, ""},
		{"UTC", 3600, "S", 7200, "UTC"},
		{"%", 0, "x", 0, "%"},
		{"%%s", 0, "x", 0, "%x"},
		{"%S%Z", 0, "x", 0, "%S%Z"},
		{"\xff%s\x00", 0, "\xfe", 0, "\xff\xfe\x00"},
	} {
		if s := src.Format(c.f, c.save, c.letter, c.off); s != c.want {
			t.Errorf("Format(%q, %d, %q, %d) is %q, not %q", c.f, c.save, c.letter, c.off, s, c.want)
		}
	}
}

// P8.1: all short formats, against the words gone through byte by byte.
func TestFormatEach(t *testing.T) {
	want := func(f string, save int64) string {
		for i := range len(f) {
			if f[i] == '/' && save == 0 {
				return f[:i]
			} else if f[i] == '/' {
				return f[i+1:]
			}
		}
		for _, mark := range []struct{ text, is string }{{"%s", "L"}, {"%z", "-0130"}} {
			for i := range len(f) - 1 {
				if f[i:i+2] == mark.text {
					return f[:i] + mark.is + f[i+2:]
				}
			}
		}
		return f
	}
	eachText("/%szA", 6, func(f string) {
		for _, save := range []int64{0, 1} {
			if s := src.Format(f, save, "L", -5400); s != want(f, save) {
				t.Fatalf("Format(%q, %d) is %q, not %q", f, save, s, want(f, save))
			}
		}
	})
	for off := int64(-50400); off <= 50400; off++ {
		s := src.Format("%z", 0, "", off)
		sum, unit := int64(0), int64(3600)
		for i := 1; i+1 < len(s); i += 2 {
			sum += number(s[i:i+2]) * unit
			unit /= 60
		}
		if s[0] == '-' {
			sum = -sum
		}
		if sum != off || (s[0] == '-') != (off < 0) || s[0] != '-' && s[0] != '+' || len(s) != 3+lengthOf(off) {
			t.Fatal("Format", off, s)
		}
	}
}

// lengthOf is how many digits of minutes and seconds an offset needs.
func lengthOf(off int64) int {
	switch {
	case off%60 != 0:
		return 4
	case off%3600 != 0:
		return 2
	}
	return 0
}

// eachText goes through all texts of up to so many of the letters.
func eachText(letters string, most int, f func(string)) {
	f("")
	if most == 0 {
		return
	}
	for i := range len(letters) {
		eachText(letters, most-1, func(s string) { f(letters[i:i+1] + s) })
	}
}

// P8.2: by hand, all that a source says.
func TestParseByHand(t *testing.T) {
	db := taken(t, "# tz\n\n"+example)
	want := src.DB{
		Rules: []src.Rule{
			{Name: "EU", From: 1977, To: 1980, Month: 4, On: when.On{Kind: 2, N: 1}, At: when.At{Sec: 3600, Kind: 'u'}, Save: 3600, Letter: "S"},
			{Name: "EU", From: 1981, To: src.Forever, Month: 3, On: when.On{Kind: 1}, At: when.At{Sec: 3600, Kind: 'u'}, Save: 3600, Letter: "S"},
			{Name: "EU", From: 1996, To: src.Forever, Month: 10, On: when.On{Kind: 1}, At: when.At{Sec: 3600, Kind: 'u'}},
		},
		Zones: []src.Zone{{Name: "Europe/Berlin", Eras: []src.Era{
			{Off: 3208, Format: "LMT", Until: src.Until{Year: 1893, Month: 4, On: when.On{N: 1}, At: when.At{Kind: 'w'}}},
			{Off: 3600, Rule: "EU", Format: "CE%sT"},
		}}},
		Links: []src.Link{{To: "Europe/Berlin", Name: "Berlin"}},
	}
	if !reflect.DeepEqual(db, want) {
		t.Error("Parse", db)
	}
	for _, s := range []string{"", "\n\n", "# no\n", " \t\r\n"} {
		if db := taken(t, s); len(db.Rules)+len(db.Zones)+len(db.Links) != 0 || src.Text(db) != "" {
			t.Errorf("Parse(%q) is %v", s, db)
		}
	}
	db = taken(t, "zONE \"A\"b -1:30:15 0:20 \"+01/+02\" 1900 sept lastMONDAY 2:00s # x\n\t-12 1:00 %z 1950 feb Sun<=9\r\n\n - 2 X 1960 jan\n2 - Y 1970\n14:00 R Z\nLINK a B\nrULE R 1800 OnLy - JANUARY 31 - 2:00 ABCdef12\nrule R 1800 MAX - dec Thu>=1 24 - -\nRule R 2100 2100 - may 1 0 -0:00 9")
	want = src.DB{
		Rules: []src.Rule{
			{Name: "R", From: 1800, To: 1800, Month: 1, On: when.On{N: 31}, At: when.At{Kind: 'w'}, Save: 7200, Letter: "ABCdef12"},
			{Name: "R", From: 1800, To: 1 << 30, Month: 12, On: when.On{Kind: 2, Wd: 4, N: 1}, At: when.At{Sec: 86400, Kind: 'w'}},
			{Name: "R", From: 2100, To: 2100, Month: 5, On: when.On{N: 1}, At: when.At{Kind: 'w'}, Letter: "9"},
		},
		Zones: []src.Zone{{Name: "Ab", Eras: []src.Era{
			{Off: -5415, Save: 1200, Format: "+01/+02", Until: src.Until{Year: 1900, Month: 9, On: when.On{Kind: 1, Wd: 1}, At: when.At{Sec: 7200, Kind: 's'}}},
			{Off: -43200, Save: 3600, Format: "%z", Until: src.Until{Year: 1950, Month: 2, On: when.On{Kind: 3, N: 9}, At: when.At{Kind: 'w'}}},
			{Save: 7200, Format: "X", Until: src.Until{Year: 1960, Month: 1, On: when.On{N: 1}, At: when.At{Kind: 'w'}}},
			{Off: 7200, Format: "Y", Until: src.Until{Year: 1970, Month: 1, On: when.On{N: 1}, At: when.At{Kind: 'w'}}},
			{Off: 50400, Rule: "R", Format: "Z"},
		}}},
		Links: []src.Link{{To: "a", Name: "B"}},
	}
	if !reflect.DeepEqual(db, want) {
		t.Error("Parse", db)
	}
	if n := src.Forever; n != 1073741824 {
		t.Error("Forever", n)
	}
}

// field is a source in which one field of a line is another one.
func field(s string, i int, other string) string {
	l := strings.Fields(s)
	l[i] = other
	return strings.Join(l, " ")
}

// eachField holds Parse to a line in which a field is one of the right ones, or of the wrong ones.
func eachField(t *testing.T, s string, i int, right, wrong []string) {
	t.Helper()
	const rule = "\nRule R 1990 only - Jan 1 0 0 -"
	for _, f := range right {
		taken(t, field(s, i, f)+rule)
	}
	for _, f := range append(wrong, `""`, `" "`, "@", "a.b", "%") {
		refused(t, "\n"+field(s, i, f)+rule, 2, api.ErrForm)
	}
}

func names() ([]string, []string) {
	return []string{"A", "z9", "a/b", "a_-+/9", "Rule", "max", strings.Repeat("n", 32)}, []string{"-", "_a", "+a", "/a", "1", "9a", "-a", "a%s", `"a b"`, strings.Repeat("n", 33)}
}

func years() ([]string, []string) {
	return []string{"1800", "1801", "1999", "2099", "2100"}, []string{"1799", "2101", "0000", "9999", "190", "01900", "19000", "-1900", "+1900", "19.0", "199x", "x", "-", "min"}
}

func months() ([]string, []string) {
	return []string{"Jan", "jan", "FEB", "marc", "April", "may", "June", "JULY", "Aug", "sept", "october", "Nov", "dec", "December"}, []string{"Ja", "Januarys", "J", "13", "1", "-", "Sun", "M\"\"a"}
}

func days() ([]string, []string) {
	return []string{"1", "31", "01", "lastSun", "LASTmonday", "Sun>=1", "sat<=31"}, []string{"0", "32", "last", "Sun", "Sun>8", "Sun>=0", "Sun<=32", "-", "-1", "Su>=8"}
}

func times() ([]string, []string) {
	return []string{"-", "0", "24", "24:00", "24:00:00u", "2:59:59s", "0:00g", "1z", "1w"}, []string{"24:01", "24:00:01", "25", "2:60", "2:00:60", "2:0", "2W", "-1", "-w", "--"}
}

func saves() ([]string, []string) {
	return []string{"0", "00", "0:00", "1", "1:00", "0:20", "1:59:59", "2", "2:00", "02:00:00"}, []string{"2:00:01", "2:01", "3", "24:00", "24:00:01", "2:60", "1u", "1:0", "1:00:", "0:0:0"}
}

// P8.2: each field at its edges and beyond.
func TestParseFields(t *testing.T) {
	rule, zone := "Rule E 1900 2000 - Jan 1 0 0 -", "Zone A 1 - X 1990 Jan 1 0"
	onceMore := func(s string) string { return s + "\n2 R Y" }
	right, wrong := names()
	for _, i := range []int{1, 2} {
		eachField(t, "Link A B", i, right, wrong)
	}
	eachField(t, rule, 1, right, wrong)
	eachField(t, "Zone A 1 - X", 1, right, wrong)
	right, wrong = years()
	eachField(t, field(rule, 3, "2100"), 2, right, wrong)
	eachField(t, field(rule, 2, "1800"), 3, append(right, "only", "ONLY", "Only", "max", "MAX", "mAX"), append(wrong, "onl", "onlys", "ma", "maximum", "o", "Forever", "1073741824"))
	eachField(t, rule, 3, []string{"1900", "1901", "2100"}, []string{"1899", "1800", "1799"})
	eachField(t, field(rule, 3, "max"), 2, right, wrong)
	eachField(t, field(rule, 3, "only"), 2, right, wrong)
	eachField(t, rule, 4, []string{"-", `"-"`}, []string{"--", "0", "x", "odd", "_", "+"})
	right, wrong = months()
	eachField(t, rule, 5, right, wrong)
	right, wrong = days()
	eachField(t, rule, 6, right, wrong)
	right, wrong = times()
	eachField(t, rule, 7, right, wrong)
	right, wrong = saves()
	eachField(t, rule, 8, append(right, "-", "-0", "-0:00:00"), append(wrong, "-1", "-0:00:01", "-2:00", "+1"))
	eachField(t, rule, 9, []string{"-", "S", "s", "0", "9", "DST", "12345678", "abcdEFGH"}, []string{"--", "123456789", "a-b", "+", "a+", "/", "%s", `"a b"`, "_"})
	eachField(t, "Zone A 1 - X", 3, append(right, "-", "R"), append(wrong, "-1", "-0", "+1", "--", "_a", "/", "9a", strings.Repeat("n", 33)))
	eachField(t, "Zone A 1 - X", 2, []string{"-", "0", "-0", "14", "14:00", "-14:00:00", "13:59:59", "-13:59:59", "0:53:28", "2:00:01", "-3"}, []string{"14:00:01", "-14:00:01", "14:01", "-14:01", "15", "-15", "24", "1u", "--1", "+1", "1:60", "1:0"})
	eachField(t, "Zone A 1 - X", 4, []string{"A", "z", "0", "+", "-", "+-", "%s", "%z", "a%s", "%sa", "%zz", "%ss", "%zs", "A/B", "-/+", "AB/CD", strings.Repeat("f", 24), strings.Repeat("f", 22) + "%s", strings.Repeat("f", 22) + "%z", strings.Repeat("f", 11) + "/" + strings.Repeat("f", 12)},
		[]string{"/", "/A", "A/", "A//B", "A/B/C", "%", "A%", "%x", "%S", "%Z", "%%", "%%s", "%s%s", "%z%z", "%s%z", "%z%s", "%s/A", "A/%s", "A/%z", "%z/A", "%s/%s", "a%sb%sc", "%/A", "%A/s", "_", "a_b", "a.b", `"a b"`, "a:b", strings.Repeat("f", 25), strings.Repeat("f", 23) + "%s", strings.Repeat("f", 23) + "%z", strings.Repeat("f", 12) + "/" + strings.Repeat("f", 12)})
	for i, kind := range []func() ([]string, []string){years, months, days, times} {
		right, wrong := kind()
		for _, f := range right {
			taken(t, onceMore(field(zone, 5+i, f))+"\nRule R 1990 only - Jan 1 0 0 -")
		}
		for _, f := range append(wrong, `""`, "@") {
			refused(t, onceMore(field(zone, 5+i, f)), 1, api.ErrForm)
			refused(t, zone+"\n"+strings.Join(strings.Fields(field(zone, 5+i, f))[2:], " ")+"\n1 - X", 2, api.ErrForm)
		}
	}
}

// P8.2: lines with fewer fields and more of them, and first words.
func TestParseLines(t *testing.T) {
	rule, link := strings.Fields("Rule E 1900 2000 - Jan 1 0 0 -"), strings.Fields("Link A B")
	zone := strings.Fields("Zone A 1 - X 1990 Jan 1 0")
	for n := range 17 {
		for _, l := range []struct {
			fields []string
			right  func(n int) bool
		}{
			{rule, func(n int) bool { return n == 10 }},
			{link, func(n int) bool { return n == 3 }},
			{zone, func(n int) bool { return n >= 5 && n <= 9 }},
		} {
			var fields []string
			for i := range n {
				if i < len(l.fields) {
					fields = append(fields, l.fields[i])
				} else {
					fields = append(fields, l.fields[len(l.fields)-1])
				}
			}
			s := strings.Join(fields, " ")
			if fields != nil && fields[0] == "Zone" && n > 5 && n <= 9 {
				s += "\n1 - X"
			}
			if n == 0 || l.right(n) {
				taken(t, s)
			} else {
				refused(t, s, 1, api.ErrForm)
			}
		}
	}
	for _, word := range []string{"Rule", "RULE", "rule", "rUlE"} {
		taken(t, field("Rule E 1900 2000 - Jan 1 0 0 -", 0, word))
		taken(t, field("Link A B", 0, map[string]string{"Rule": "Link", "RULE": "LINK", "rule": "link", "rUlE": "lInK"}[word]))
		taken(t, field("Zone A 1 - X", 0, map[string]string{"Rule": "Zone", "RULE": "ZONE", "rule": "zone", "rUlE": "zOnE"}[word]))
	}
	for _, word := range []string{"Rul", "Rules", "R", "Zon", "Zones", "Lin", "Links", `""`, "-", "1", "Foo", `"Rule "`, "\"Lin\u006b\"s"} {
		for _, s := range []string{"Rule E 1900 2000 - Jan 1 0 0 -", "Zone A 1 - X", "Link A B"} {
			refused(t, "\n\n"+field(s, 0, word), 3, api.ErrForm)
		}
		refused(t, word, 1, api.ErrForm)
	}
}

// P8.2: a line that goes on must come behind an UNTIL, and nowhere else.
func TestParseGoesOn(t *testing.T) {
	for _, s := range []string{"1 - X", "1 - X 1990", "1:00 R CE%sT"} {
		refused(t, s, 1, api.ErrForm)
		refused(t, "Zone A 1 - X\n\n"+s, 3, api.ErrForm)
		refused(t, "Link A B\n"+s, 2, api.ErrForm)
		refused(t, "Rule E 1900 2000 - Jan 1 0 0 -\n"+s, 2, api.ErrForm)
		refused(t, "Zone A 1 - X 1990\n2 - Y\n"+s, 3, api.ErrForm)
		refused(t, "Zone A 1 - X 1990\n2 - Y 1991\n3 - Z\n\n"+s, 5, api.ErrForm)
	}
	for _, s := range []string{"Link A B", "Zone B 1 - X", "Zone B 1 - X 1990", "Rule E 1900 2000 - Jan 1 0 0 -", "Foo", "Zone", "1 - X 1990 Jan 1 0 0", "1 -", "1"} {
		refused(t, "Zone A 1 - X 1990\n# x\n"+s+"\n1 - X", 3, api.ErrForm)
		refused(t, "Zone A 1 - X 1990\n2 - Y 1991 Jan\n"+s, 3, api.ErrForm)
		refused(t, "Zone A 1 - X 1990\n2 - Y 1991 Jan\n"+s+"\n3 - Z", 3, api.ErrForm)
	}
	for _, until := range []string{"1990", "1990 Feb", "1990 Feb 2", "1990 Feb 2 3:00s"} {
		refused(t, "Zone A 1 - X "+until, 1, api.ErrForm)
		refused(t, "\nZone A 1 - X "+until+"\n\n# x\n", 2, api.ErrForm)
		refused(t, "Zone A 1 - X 1990\n2 - Y "+until+"\n", 2, api.ErrForm)
		taken(t, "Zone A 1 - X "+until+"\n# x\n\n 2 - Y")
		taken(t, "Zone A 1 - X "+until+"\n2 - Y "+until+"\n2 - Y\nLink A B\nZone C 1 - X 1990\n2 - Y")
	}
	// The end that does not come is told ahead of rules that nobody has.
	refused(t, "Zone A 1 R X\nZone B 1 R X 1990", 2, api.ErrForm)
}

// numbered is a line for each number from 0 on, with # for the number.
func numbered(text string, n int) string {
	var b strings.Builder
	for i := range n {
		b.WriteString(strings.ReplaceAll(text, "#", strconv.Itoa(i)) + "\n")
	}
	return b.String()
}

// P8.2: how many there may be, and one more.
func TestParseSizes(t *testing.T) {
	const rule = " 1900 max - Jan 1 0 0 -"
	for line, most := range map[string]int{"Rule R" + rule: 16, "Rule R#" + rule: 16, "Zone Z# 1 - X": 16, "Link A L#": 16} {
		if db := taken(t, numbered(line, most)); len(db.Rules)+len(db.Zones)+len(db.Links) != most {
			t.Error("Parse", line, most, db)
		}
		refused(t, "\n"+numbered(line, most+1), most+2, api.ErrSize)
		refused(t, numbered(line, most+5), most+1, api.ErrSize)
		if line == "Rule R"+rule {
			taken(t, numbered(line, most)+"Rule r"+rule+"\nRule R1"+rule)
		}
		// A line that is not as it must be is told first.
		refused(t, numbered(line, most)+strings.Replace(line, " ", " ,", 1), most+1, api.ErrForm)
	}
	// A 17th rule of a name, or name of rules, though the other may be; and one more of each name that is there.
	refused(t, numbered("Rule R"+rule, 16)+"Rule S"+rule+"\nRule R"+rule, 18, api.ErrSize)
	full := numbered("Rule R#"+rule, 16)
	taken(t, full+numbered("Rule R#"+rule, 16))
	taken(t, full+numbered("Rule R3"+rule, 15))
	refused(t, full+numbered("Rule R3"+rule, 16), 32, api.ErrSize)
	refused(t, full+"Rule r0"+rule, 17, api.ErrSize)
	taken(t, numbered("Rule R#"+rule, 15)+"Rule r0"+rule)
	taken(t, numbered("Zone Z# 1 - X", 16)+numbered("Link A L#", 16)+numbered("Rule R#"+rule, 16))
	if db := taken(t, strings.Repeat(full, 16)); len(db.Rules) != 256 {
		t.Error("Parse of many rules", len(db.Rules))
	}
	// The 17th zone or link whose name is another's, too.
	refused(t, numbered("Zone Z# 1 - X", 16)+"Zone Z3 1 - X", 17, api.ErrSize)
	refused(t, numbered("Link A L#", 16)+"Link A L3", 17, api.ErrSize)
	refused(t, numbered("Link A L#", 15)+"Link A L3", 16, api.ErrName)
	refused(t, numbered("Zone Z# 1 - X", 15)+"Zone Z3 1 - X", 16, api.ErrName)
}

// P8.2: twelve eras, and one more, of a zone.
func TestParseEras(t *testing.T) {
	eras := "Zone A 1 - X 1900\n" + numbered("1 - Y 1900", 10)
	if db := taken(t, eras+"1 - Z"); len(db.Zones[0].Eras) != 12 {
		t.Error("Parse of 12 eras", db)
	}
	taken(t, eras+"1 - Z\n"+strings.ReplaceAll(eras, "Zone A", "Zone B")+"1 - Z")
	refused(t, eras+"1 - Z 1900", 12, api.ErrForm)
	for _, last := range []string{"1 - Z", "1 - Z 1900", "1 R Z"} {
		refused(t, eras+"1 - Y 1900\n"+last, 13, api.ErrSize)
		refused(t, "Zone B 1 - X 1900\n1 - Z\n\n"+eras+"1 - Y 1900\n"+last, 16, api.ErrSize)
	}
	for _, last := range []string{"1 - /", "Zone B 1 - X", "Link A B", "1 -"} {
		refused(t, eras+"1 - Y 1900\n"+last, 13, api.ErrForm)
	}
	// Eras are counted zone by zone.
	refused(t, eras+"1 - Z\nZone B 1 - X 1900\n"+numbered("1 - Y 1900", 11)+"1 - Z", 25, api.ErrSize)
	taken(t, numbered("Zone Z# 1 - X 1900\n1 - Y", 16))
	for n := range 16 {
		db := taken(t, "Zone A 1 - X 1900\n"+numbered("1 - Y 1900", min(n, 10))+"1 - Z\nZone B 2 - W")
		if len(db.Zones) != 2 || len(db.Zones[0].Eras) != min(n, 10)+2 || len(db.Zones[1].Eras) != 1 {
			t.Error("Parse of eras", n, db)
		}
	}
}

// P8.2: names that stand twice, and rules that nobody has.
func TestParseNames(t *testing.T) {
	for _, a := range []string{"Zone Ab/c 1 - X", "Link X Ab/c"} {
		for _, same := range []string{"Ab/c", "AB/C", "ab/c", "aB/c"} {
			for _, b := range []string{"Zone " + same + " 1 - X", "Link Y " + same, "Zone " + same + " 1 - X 1990\n1 - X"} {
				refused(t, a+"\n\n"+b, 3, api.ErrName)
				refused(t, "Zone Q 1 - X\nLink A R\n"+a+"\nZone S 1 - X\nLink A T\n"+b, 6, api.ErrName)
			}
		}
		for _, other := range []string{"Ab/cd", "Ab/", "Ab_c", "Abc"} {
			taken(t, a+"\nZone "+other+" 1 - X")
			taken(t, a+"\nLink Ab/c "+other)
		}
	}
	taken(t, "Link A B\nLink A C\nLink B D\nLink Nobody E\nLink F F")
	refused(t, "Zone A 1 - X\nLink A A", 2, api.ErrName)
	taken(t, "Rule A 1990 only - Jan 1 0 0 -\nZone A 1 A X\nLink A B\nRule a 1990 only - Jan 1 0 0 -\nRule B 1990 only - Jan 1 0 0 -")
	const rule = "\nRule EU 1990 only - Jan 1 0 0 -\n"
	taken(t, "Zone A 1 EU X"+rule)
	taken(t, rule+"Zone A 1 EU X")
	for _, lost := range []string{"eu", "Eu", "E", "EUR", "max", "R"} {
		refused(t, "Zone A 1 "+lost+" X", 1, api.ErrName)
		refused(t, rule+"Zone A 1 "+lost+" X", 3, api.ErrName)
		refused(t, "Zone A 1 EU X 1990\n\n2 "+lost+" X"+rule, 3, api.ErrName)
		refused(t, "Zone A 1 - X\n\nZone B 1 EU X 1990\n2 "+lost+" X 1991\n3 R X"+rule, 4, api.ErrName)
		refused(t, "Zone A 1 - X\nZone B 1 EU X\nLink A C\nZone D 1 - X 1990\n1 - X 1991\n2 "+lost+" X"+rule, 6, api.ErrName)
	}
}

// P8.2: two errors, of one line and of several.
func TestParseTwoErrors(t *testing.T) {
	// Errors of fields come ahead of all lines, those of a line ahead of later ones.
	refused(t, "Foo\nLink A B\n\x00", 3, api.ErrForm)
	refused(t, "Foo\n\""+"\nFoo", 2, api.ErrForm)
	refused(t, "Foo\n"+strings.Repeat("a ", 17), 2, api.ErrSize)
	refused(t, strings.Repeat("Foo\n", 401), 401, api.ErrSize)
	refused(t, "Foo\n"+strings.Repeat(" ", 8192), 0, api.ErrSize)
	refused(t, "Foo"+strings.Repeat("\n", 8189), 1, api.ErrForm)
	refused(t, "Zone A 1 - X\nZone a 1 - X\nFoo", 2, api.ErrName)
	refused(t, "Zone A 1 - X\nFoo\nZone a 1 - X", 2, api.ErrForm)
	refused(t, "Zone A 1 R X\nFoo", 2, api.ErrForm)
	refused(t, "Zone A 1 R X\nZone A 1 - X", 2, api.ErrName)
	refused(t, numbered("Link A L#", 17)+"Foo", 17, api.ErrSize)
	refused(t, numbered("Link A L#", 16)+"Foo\nLink A L", 17, api.ErrForm)
	// Of one line.
	refused(t, "Zone A 1 - X\nZone A 1 - /", 2, api.ErrForm)
	refused(t, "Zone A 1 - X\nLink , A", 2, api.ErrForm)
	refused(t, numbered("Zone Z# 1 - X", 16)+"Zone Z0 1 - /", 17, api.ErrForm)
	refused(t, numbered("Zone Z# 1 - X", 16)+"Zone Z0 1 R X 1990", 17, api.ErrSize)
	refused(t, numbered("Link A L#", 16)+"Link L0 L0 L0", 17, api.ErrForm)
	refused(t, "Zone A 1 R X 1990", 1, api.ErrForm)
	refused(t, "Zone A 1 - X\nZone A 1 R X 1990", 2, api.ErrName)
}

// P8.3: by hand.
func TestTextByHand(t *testing.T) {
	for s, want := range map[string]string{
		example: example,
		"link a B\nzone Q -1 0 %z\nrule r 1990 1990 - december 01 - - -\nlink c D\nrule q 1800 MAX - JUNE sunday>=09 24:00:00z 0:00:01 9":         "Rule r 1990 only - Dec 1 0:00 0:00 -\nRule q 1800 max - Jun Sun>=9 24:00u 0:00:01 9\nZone Q -1:00 - %z\nLink a B\nLink c D\n",
		"Zone A -0:00:01 2 A/B 1990\n-14 0:20 X 1991 feb\n - 00:00:01 X 1992 March lastwednesday\n13:59:59 - X 1993 apr FRI<=07 23:59:59s\n0 - X": "Zone A -0:00:01 2:00 A/B 1990 Jan 1 0:00\n-14:00 0:20 X 1991 Feb 1 0:00\n0:00 0:00:01 X 1992 Mar lastWed 0:00\n13:59:59 - X 1993 Apr Fri<=7 23:59:59s\n0:00 - X\n",
		"": "",
	} {
		db := taken(t, s)
		if text := src.Text(db); text != want {
			t.Errorf("Text of %q is %q, not %q", s, text, want)
		}
	}
	for m, name := range []string{"Jan", "Feb", "Mar", "Apr", "May", "Jun", "Jul", "Aug", "Sep", "Oct", "Nov", "Dec"} {
		s := "Rule R 1990 2000 - " + name + " 1 0:00 0:00 -\nZone A 1:00 - X 1990 " + name + " 1 0:00\n1:00 - X\n"
		if db := taken(t, s); src.Text(db) != s || db.Rules[0].Month != int64(m+1) || db.Zones[0].Eras[0].Until.Month != int64(m+1) {
			t.Error("Text", name, src.Text(db))
		}
	}
}

// P8.3, P8.4: each save, each offset, each year.
func TestTextEach(t *testing.T) {
	for off := int64(-50400); off <= 50400; off += 37 {
		era := src.Era{Off: off, Save: (off%7201 + 7201) % 7201, Format: "X"}
		checkBack(t, src.DB{Zones: []src.Zone{{Name: "A", Eras: []src.Era{era}}}})
	}
	for _, off := range []int64{-50400, -50399, -3601, -3600, -3599, -60, -59, -1, 0, 1, 59, 60, 61, 3599, 3600, 3601, 50399, 50400} {
		checkBack(t, src.DB{Zones: []src.Zone{{Name: "A", Eras: []src.Era{{Off: off, Format: "X"}}}}})
	}
	for save := range int64(7201) {
		checkBack(t, src.DB{Rules: []src.Rule{{Name: "A", From: 1900, To: 1900, Month: 1, On: when.On{N: 1}, At: when.At{Kind: 'w'}, Save: save}}})
	}
	for y := int64(1800); y <= 2100; y++ {
		r := src.Rule{Name: "A", From: y, To: y, Month: 1, On: when.On{N: 1}, At: when.At{Kind: 'w'}}
		later, ever := r, r
		later.To, ever.To = 2100, src.Forever
		db := src.DB{Rules: []src.Rule{r, later, ever}}
		checkBack(t, db)
		l := strings.Split(src.Text(db), "\n")
		if !strings.Contains(l[0], " only ") || !strings.Contains(l[2], " max ") || (y < 2100) != strings.Contains(l[1], " 2100 - ") {
			t.Error("Text", l)
		}
	}
}

// P6 of the document: Text of what Parse never told ends, too.
func TestTextOfAnything(t *testing.T) {
	odd := []int64{math.MinInt64, -1, 0, 13, 86401, math.MaxInt64}
	for _, n := range odd {
		on, at := when.On{Kind: int(n), Wd: n, N: n}, when.At{Sec: n, Kind: byte(n)}
		db := src.DB{
			Rules: []src.Rule{{From: n, To: n, Month: n, On: on, At: at, Save: n, Letter: "\xff#"}},
			Zones: []src.Zone{{}, {Name: "\n", Eras: []src.Era{{Off: n, Save: n, Until: src.Until{Year: n, Month: n, On: on, At: at}}, {}}}},
			Links: []src.Link{{}},
		}
		if s := src.Text(db); !strings.HasSuffix(s, "\n") {
			t.Errorf("Text is %q", s)
		}
	}
}

// pick is one of the texts, mostly of the first list.
func pick(r *rand.Rand, right, wrong []string) string {
	if r.Intn(500) == 0 {
		return wrong[r.Intn(len(wrong))]
	}
	return right[r.Intn(len(right))]
}

// anyEra is an era with an UNTIL or without, mostly a right one.
func anyEra(r *rand.Rand, until bool) string {
	save, wrongSave := saves()
	s := pick(r, []string{"1", "-1:30", "0:53:28", "14:00", "-14", "-", "0"}, []string{"14:00:01", "x", "-15"})
	s += " " + pick(r, append(save, "-", "-", "A", "B", "C", "R0"), append(wrongSave, "a", "Z"))
	s += " " + pick(r, []string{"X", "LMT", "CE%sT", "GMT/BST", "%z", "-03/-02"}, []string{"/", "%s%s", "%s/%z", "a_b"})
	if !until {
		return s
	}
	for i, kind := range []func() ([]string, []string){years, months, days, times} {
		if i > 0 && r.Intn(3) == 0 {
			break
		}
		s += " " + pickOf(r, kind)
	}
	return s
}

func pickOf(r *rand.Rand, kind func() ([]string, []string)) string {
	right, wrong := kind()
	return pick(r, right, wrong)
}

// anyRule is a rule, mostly a right one.
func anyRule(r *rand.Rand) string {
	name := pick(r, []string{"A", "B", "C", "R" + strconv.Itoa(r.Intn(20))}, []string{"-", "9"})
	to := pick(r, []string{"only", "max", "MAX", "2100"}, []string{"1800", "2101", "x"})
	s := "Rule " + name + " " + pickOf(r, years) + " " + to + " - "
	return s + pickOf(r, months) + " " + pickOf(r, days) + " " + pickOf(r, times) + " " + pickOf(r, saves) + " " + pick(r, []string{"-", "S", "DST"}, []string{"123456789", "+"})
}

// anySource is a source of many lines, mostly a right one.
func anySource(r *rand.Rand) string {
	var l []string
	kinds := []string{"rule", "rule", "rule", "zone", "zone", "link"}[r.Intn(3):]
	name := func() string { return "N" + strconv.Itoa(r.Intn(400)) }
	for range r.Intn(60) {
		switch kinds[r.Intn(len(kinds))] {
		case "rule":
			l = append(l, anyRule(r))
		case "link":
			l = append(l, "Link "+name()+" "+name())
		case "zone":
			head := "Zone " + name() + " "
			for range r.Intn(4) * r.Intn(4) {
				l = append(l, head+anyEra(r, true))
				head = ""
			}
			l = append(l, head+anyEra(r, r.Intn(100) == 0))
		}
		if r.Intn(20) == 0 {
			l = append(l, pick(r, []string{"", "# x", "\t"}, []string{"Foo", "1 - X", "\x00"}))
		}
	}
	return strings.Join(l, "\n")
}

// P8.2, P8.4: many sources, against patterns.
func TestParseMany(t *testing.T) {
	r := rand.New(rand.NewSource(8))
	count := map[api.Errno]int{}
	for range 6000 {
		count[checkParse(t, anySource(r))]++
	}
	for _, e := range []api.Errno{api.OK, api.ErrForm, api.ErrSize, api.ErrName} {
		if count[e] < 100 {
			t.Error("too few sources that are told", e, count)
		}
	}
}

// P8.2: what is a byte away from right sources, less, more or another; and each line left out, twice or moved.
func TestParseNear(t *testing.T) {
	for _, s := range []string{
		"Rule E 1981 max - Mar lastSun 1:00u 1:00 S\nZone A 1:00 E CE%sT\nLink A B\n",
		"Zone A/b 0:53:28 - LMT 1893 Apr 1 0:00\n-1 2:00 G/B\nLink A B",
	} {
		for i := range len(s) + 1 {
			for b := range 128 {
				one := string([]byte{byte(b)})
				checkParse(t, s[:i]+one+s[i:])
				if i < len(s) {
					checkParse(t, s[:i]+one+s[i+1:])
				}
			}
			if i < len(s) {
				checkParse(t, s[:i]+s[i+1:])
			}
		}
	}
	l := strings.SplitAfter(example+"Zone B 1 - X 1990\n2 EU Y 1991\n3 - Z\nLink B C\n", "\n")
	for i := range l {
		checkParse(t, strings.Join(slices.Delete(slices.Clone(l), i, i+1), ""))
		for j := range l {
			moved := slices.Delete(slices.Clone(l), i, i+1)
			checkParse(t, strings.Join(slices.Insert(moved, min(j, len(moved)), l[i]), ""))
			checkParse(t, strings.Join(slices.Insert(slices.Clone(l), j, l[i]), ""))
		}
	}
}

// Rules 4 and 5 of the document: no answer shares memory with another one, or with what was handed in.
func TestParseOwnsItsAnswer(t *testing.T) {
	s := "Rule R 1990 only - Jan 1 0 0 -\nZone A 1 R X 1990\n2 - Y 1991\n3 - Z\nZone B 1 - X 1990\n2 - Y\nLink A C"
	want, _, _ := src.Parse(s)
	db, _, _ := src.Parse(s)
	for i := range db.Zones {
		for j := range 5 {
			db.Zones[i].Eras = append(db.Zones[i].Eras, src.Era{Off: int64(j)})
		}
	}
	db.Rules = append(db.Rules, src.Rule{})
	db.Links = append(db.Links, src.Link{})
	db.Zones = append(db.Zones, src.Zone{})
	db.Rules[0].Name, db.Links[0].Name, db.Zones[0].Name, db.Zones[0].Eras[0].Rule = "x", "x", "x", "x"
	if len(db.Zones[1].Eras) != 7 || db.Zones[1].Eras[0].Format != "X" || db.Zones[0].Eras[2].Format != "Z" {
		t.Error("zones share their eras", db)
	}
	if again, _, _ := src.Parse(s); !reflect.DeepEqual(again, want) {
		t.Error("Parse", again)
	}
	was := src.Text(want)
	copied, _, _ := src.Parse(s)
	if src.Text(want) != was || !reflect.DeepEqual(want, copied) {
		t.Error("Text changes what is handed in", want)
	}
}
