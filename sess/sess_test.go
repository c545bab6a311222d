package sess_test

import (
	"math"
	"reflect"
	"slices"
	"strings"
	"testing"

	"computus/api"
	"computus/expr"
	"computus/names"
	"computus/sess"
)

// example is the document's own source.
const example = "Rule EU 1977 1980 - Apr Sun>=1 1:00u 1:00 S\n" +
	"Rule EU 1981 max - Mar lastSun 1:00u 1:00 S\n" +
	"Rule EU 1996 max - Oct lastSun 1:00u 0:00 -\n" +
	"Zone Europe/Berlin 0:53:28 - LMT 1893 Apr 1 0:00\n" +
	"1:00 EU CE%sT\n" +
	"Link Europe/Berlin Berlin\n"

// wide has zones that are far ahead and far behind, too.
const wide = example +
	"Rule US 1967 2006 - Oct lastSun 2:00 0 S\n" +
	"Rule US 2007 max - Nov Sun>=1 2:00 0 S\n" +
	"Rule US 1967 2006 - Apr Sun>=1 2:00 1:00 D\n" +
	"Rule US 2007 max - Mar Sun>=8 2:00 1:00 D\n" +
	"Zone America/New_York -5:00 US E%sT\n" +
	"Zone Asia/Kolkata 5:30 - IST\n" +
	"Zone Half 0:00:30 - HLF\n" +
	"Zone Most 14:00 2:00 MST\n" +
	"Zone Least -14:00 - LST\n"

// opened is a new session.
func opened(t *testing.T, source string) *sess.Session {
	t.Helper()
	s, line, name, e := sess.New(source)
	if e != api.OK || s == nil || line != 0 || name != "" {
		t.Fatal("New", line, name, e)
	}
	return s
}

func checkAnswer(t *testing.T, text string, got, want sess.Answer) {
	t.Helper()
	if got.Err != want.Err || got.At != want.At || got.Kind != want.Kind || !slices.Equal(got.Rows, want.Rows) {
		t.Errorf("Do(%q) = %v, want %v", text, got, want)
	}
}

// does runs a statement that must be OK and tell these rows.
func does(t *testing.T, s *sess.Session, text string, kind int, rows ...string) {
	t.Helper()
	checkAnswer(t, text, s.Do(text, 100), sess.Answer{Kind: kind, Rows: rows})
}

// fails runs a statement that must not be OK.
func fails(t *testing.T, s *sess.Session, text string, e api.Errno, at int) {
	t.Helper()
	checkAnswer(t, text, s.Do(text, 100), sess.Answer{Err: e, At: at})
}

// P24.1: a session at first.
func TestNew(t *testing.T) {
	s := opened(t, example)
	if s.Zone() != "UTC" || s.Style() != (api.Style{Out: api.ISO, Order: api.MDY, Span: api.Postgres}) || s.Steps() != 0 {
		t.Error("New", s.Zone(), s.Style(), s.Steps())
	}
	if l := s.Names(); !slices.Equal(l, []string{"Berlin", "Europe/Berlin", "UTC"}) {
		t.Error("Names", l)
	}
	does(t, s, "show timezone", api.KText, "UTC")
	does(t, s, "show datestyle", api.KText, "ISO, MDY")
	does(t, s, "show intervalstyle", api.KText, "postgres")
	s = opened(t, "")
	if l := s.Names(); !slices.Equal(l, []string{"UTC"}) || s.Zone() != "UTC" {
		t.Error("Names", l, s.Zone())
	}
	does(t, s, "timestamptz '2024-01-01'", api.KTz, "2024-01-01 00:00:00+00")
}

// P24.1: a source's own UTC is the session's at first.
func TestOwnUTC(t *testing.T) {
	s := opened(t, "Zone uTc 5:30 - ODD\nLink uTc X")
	if s.Zone() != "UTC" || !slices.Equal(s.Names(), []string{"uTc", "X"}) {
		t.Error("New", s.Zone(), s.Names())
	}
	does(t, s, "show timezone", api.KText, "uTc")
	does(t, s, "timestamptz '2024-01-01 00:00Z'", api.KTz, "2024-01-01 05:30:00+05:30")
	s = opened(t, "Zone Odd 1:00 - ODD\nLink Odd utc")
	does(t, s, "show timezone", api.KText, "Odd")
	does(t, s, "timestamptz '2024-01-01 00:00Z'", api.KTz, "2024-01-01 01:00:00+01")
}

// P24.1: a source that can not be: names.Load's errors.
func TestNewWrong(t *testing.T) {
	for _, source := range []string{
		"Zone A 1 - X\nLink A A", "x", "Zone", "Link A B", "Link A B\nLink B A", "Zone A 1 R X", "Zone A 1 - X 2000", "\x00", "\xff", strings.Repeat("#", 8193),
		"Rule R 1980 max - Mar 1 0 1 S\nRule R 1980 max - Mar 2 0 0 -\nZone A 1 R X%s", strings.Repeat("Zone A 1 - X\n", 17), "Zone A 25 - X", example + "Link Nowhere There",
	} {
		_, line, name, want := names.Load(source)
		s, n, who, e := sess.New(source)
		if want == api.OK || s != nil || n != line || who != name || e != want {
			t.Errorf("New(%q) = %v, %d, %q, %d, want %d, %q, %d", source, s, n, who, e, line, name, want)
		}
	}
	if s, line, name, e := sess.New("Zone A 1 - X\nLink A A"); s != nil || line != 2 || name != "" || e != api.ErrName {
		t.Error("New", s, line, name, e)
	}
	if s, line, name, e := sess.New("Link Nowhere There"); s != nil || line != 0 || name != "There" || e != api.ErrName {
		t.Error("New", s, line, name, e)
	}
}

// checkNone: the session answers as one that is not there.
func checkNone(t *testing.T, s *sess.Session) {
	t.Helper()
	for range 2 {
		for _, text := range []string{"1", "", "show timezone", "set timezone = 'UTC'", "\xff", strings.Repeat("x", 5000), "generate_series(1, 9, 1)"} {
			for _, most := range []int{-1, 0, 5, 1001} {
				checkAnswer(t, text, s.Do(text, most), sess.Answer{Err: api.ErrNil})
			}
		}
		for _, text := range []string{"1", "f()", "1 / 0"} {
			n, _, _ := expr.Parse(text)
			if l, e := s.Eval(n, -1); l != nil || e != api.ErrNil {
				t.Error("Eval", l, e)
			}
		}
		l := s.Run([]string{"1", "show x"}, 5)
		if want := []sess.Answer{{Err: api.ErrNil}, {Err: api.ErrNil}}; !reflect.DeepEqual(l, want) {
			t.Error("Run", l)
		}
		if l := s.Run(nil, 5); len(l) != 0 {
			t.Error("Run", l)
		}
		if s.Close() {
			t.Error("Close")
		}
	}
}

// P24.1: of nil, and of a session that nobody made.
func TestNil(t *testing.T) {
	for _, s := range []*sess.Session{nil, {}} {
		checkNone(t, s)
		if s.Zone() != "" || s.Style() != (api.Style{}) || len(s.Names()) != 0 || s.Steps() != 0 {
			t.Error("nil", s.Zone(), s.Style(), s.Names(), s.Steps())
		}
	}
}

// P24.1: a closed one does nothing any more, and keeps what it has.
func TestClose(t *testing.T) {
	s := opened(t, example)
	does(t, s, "set timezone = 'berlin'", 0)
	does(t, s, "set datestyle = 'sql'", 0)
	if !s.Close() {
		t.Error("Close")
	}
	checkNone(t, s)
	if s.Zone() != "berlin" || s.Style().Out != api.SQL || len(s.Names()) != 3 || s.Steps() != 2 {
		t.Error("closed", s.Zone(), s.Style(), s.Names(), s.Steps())
	}
	// Another session stays open.
	other := opened(t, example)
	does(t, other, "1", api.KInt, "1")
	if !other.Close() || other.Close() || other.Close() {
		t.Error("Close")
	}
}

// P24.1: each statement is one step, whatever comes of it; Eval is none.
func TestSteps(t *testing.T) {
	s := opened(t, example)
	n, _, _ := expr.Parse("1 + 1")
	for i, text := range []string{"1", "1 / 0", "f()", "", "\xff", "set timezone = 'UTC'", "set x = 'y'", "show timezone", "show", strings.Repeat(" ", 3000), "generate_series(1, 5, 1)", "1 +"} {
		if s.Steps() != int64(i) {
			t.Error("Steps", i, s.Steps())
		}
		s.Do(text, 3)
		if l, e := s.Eval(n, 0); e != api.OK || len(l) != 1 {
			t.Error("Eval", l, e)
		}
		s.Zone()
		s.Style()
		s.Names()
	}
	s.Do("1", -1)
	if s.Steps() != 13 {
		t.Error("Steps", s.Steps())
	}
	s.Run([]string{"1", "", "show x"}, 3)
	if s.Steps() != 16 {
		t.Error("Steps", s.Steps())
	}
	if other := opened(t, example); other.Steps() != 0 {
		t.Error("Steps", other.Steps())
	}
}

// P24.3: a script is its statements, one behind the other.
func TestRun(t *testing.T) {
	s := opened(t, example)
	script := []string{"set timezone to 'Berlin'", "timestamptz '2024-07-01 12:00Z'", "1 +", "set datestyle = 'x'", "generate_series(1, 3, 1)", "generate_series(1, 4, 1)", "show timezone"}
	before := slices.Clone(script)
	got := s.Run(script, 3)
	want := []sess.Answer{
		{}, {Kind: api.KTz, Rows: []string{"2024-07-01 14:00:00+02"}}, {Err: api.ErrSyntax, At: 3}, {Err: api.ErrLiteral},
		{Kind: api.KInt, Rows: []string{"1", "2", "3"}}, {Err: api.ErrRows}, {Kind: api.KText, Rows: []string{"Europe/Berlin"}},
	}
	if len(got) != len(want) {
		t.Fatal("Run", got)
	}
	for i := range want {
		checkAnswer(t, script[i], got[i], want[i])
	}
	if !slices.Equal(script, before) {
		t.Error("Run changed the script", script)
	}
	if l := s.Run(nil, 1); len(l) != 0 {
		t.Error("Run", l)
	}
	if l := s.Run([]string{}, -1); len(l) != 0 {
		t.Error("Run", l)
	}
}

// P24.3: of more than 1000 statements the first ones.
func TestRunMany(t *testing.T) {
	for many, want := range map[int]int{1: 1, 999: 999, 1000: 1000, 1001: 1000, 5000: 1000} {
		s := opened(t, example)
		script := make([]string, many)
		for i := range script {
			script[i] = "1"
			if i >= 1000 {
				script[i] = "set timezone = 'Berlin'"
			}
		}
		l := s.Run(script, 1)
		if len(l) != want || s.Steps() != int64(want) || s.Zone() != "UTC" {
			t.Error("Run", many, len(l), s.Steps(), s.Zone())
		}
		for i, a := range l {
			if a.Err != api.OK || len(a.Rows) != 1 || a.Rows[0] != "1" {
				t.Fatal("Run", i, a)
			}
		}
	}
}

// P24.1, P24.3: the settings, and how they are asked for.
func TestSettings(t *testing.T) {
	s := opened(t, wide)
	style := api.Style{Order: api.MDY}
	for _, x := range []struct {
		text, name, row string
		zone            string
		style           api.Style
	}{
		{"SET timezone = 'Europe/Berlin'", "timezone", "Europe/Berlin", "Europe/Berlin", style},
		{"set TIMEZONE to 'bErLiN'", "TimeZone", "Europe/Berlin", "bErLiN", style},
		{" \n Set\tTimeZone\r\n='utc'  ", "TIMEZONE", "UTC", "utc", style},
		{"set timezone to'america/new_york'", "timezone", "America/New_York", "america/new_york", style},
		{"set timezone = ('Half')", "timezone", "Half", "Half", style},
		{"set timezone=((('UTC')))", "timezone", "UTC", "UTC", style},
		{"set datestyle = 'SQL'", "datestyle", "SQL, MDY", "UTC", api.Style{Out: api.SQL, Order: api.MDY}},
		{"set datestyle = 'DMY'", "datestyle", "SQL, DMY", "UTC", api.Style{Out: api.SQL, Order: api.DMY}},
		{"set datestyle = 'iso'", "DateStyle", "ISO, DMY", "UTC", api.Style{Out: api.ISO, Order: api.DMY}},
		{"set datestyle = 'ymd, sql'", "datestyle", "SQL, YMD", "UTC", api.Style{Out: api.SQL, Order: api.YMD}},
		{"set DATESTYLE to 'Iso Mdy'", "datestyle", "ISO, MDY", "UTC", api.Style{Out: api.ISO, Order: api.MDY}},
		{"set datestyle = ' ,, Dmy\t\n\r,,SqL ,'", "datestyle", "SQL, DMY", "UTC", api.Style{Out: api.SQL, Order: api.DMY}},
		{"set datestyle = 'SQL,MDY'", "datestyle", "SQL, MDY", "UTC", api.Style{Out: api.SQL, Order: api.MDY}},
		{"set datestyle = 'ISO, MDY'", "datestyle", "ISO, MDY", "UTC", style},
		{"set intervalstyle = 'sql_standard'", "intervalstyle", "sql_standard", "UTC", api.Style{Order: api.MDY, Span: api.SQLSpan}},
		{"set INTERVALSTYLE TO 'ISO_8601'", "IntervalStyle", "iso_8601", "UTC", api.Style{Order: api.MDY, Span: api.ISOSpan}},
		{"set datestyle = 'ymd'", "datestyle", "ISO, YMD", "UTC", api.Style{Order: api.YMD, Span: api.ISOSpan}},
		{"set intervalstyle = 'Postgres'", "intervalstyle", "postgres", "UTC", api.Style{Order: api.YMD}},
	} {
		// How many rows there may be plays no part.
		for _, most := range []int{-1, 0, 1001} {
			checkAnswer(t, x.text, s.Do(x.text, most), sess.Answer{})
			checkAnswer(t, x.name, s.Do("show "+x.name, most), sess.Answer{Kind: api.KText, Rows: []string{x.row}})
		}
		does(t, s, " SHOW\n"+x.name+" ", api.KText, x.row)
		if s.Zone() != x.zone || s.Style() != x.style {
			t.Errorf("behind %q: %q, %v", x.text, s.Zone(), s.Style())
		}
	}
}

// P24.3: statements that are wrong, with their places, change nothing.
func TestWrongSettings(t *testing.T) {
	s := opened(t, example)
	does(t, s, "set timezone = 'berlin'", 0)
	does(t, s, "set datestyle = 'SQL, YMD'", 0)
	does(t, s, "set intervalstyle = 'iso_8601'", 0)
	deep := strings.Repeat("(", 20)
	for text, want := range map[string]struct {
		e  api.Errno
		at int
	}{
		// What is no setting, or no value of one.
		"set timezone = 'Nowhere'": {api.ErrZone, 0}, "set timezone = ''": {api.ErrZone, 0}, "set timezone = ' UTC'": {api.ErrZone, 0}, "set timezone = 'CEST'": {api.ErrZone, 0}, "set timezone = '+02'": {api.ErrZone, 0}, "set timezone = 'Europe / Berlin'": {api.ErrZone, 0},
		"set datestyle = ''": {api.ErrLiteral, 0}, "set datestyle = ' , '": {api.ErrLiteral, 0}, "set datestyle = 'ISO, SQL'": {api.ErrLiteral, 0}, "set datestyle = 'ISO, ISO'": {api.ErrLiteral, 0}, "set datestyle = 'YMD, DMY'": {api.ErrLiteral, 0}, "set datestyle = 'MDY MDY'": {api.ErrLiteral, 0}, "set datestyle = 'ISO, DMY, x'": {api.ErrLiteral, 0}, "set datestyle = 'ISO; DMY'": {api.ErrLiteral, 0}, "set datestyle = 'ISODMY'": {api.ErrLiteral, 0}, "set datestyle = 'DMY ISO YMD'": {api.ErrLiteral, 0}, "set datestyle = 'postgres'": {api.ErrLiteral, 0}, "set datestyle = 'IS'": {api.ErrLiteral, 0}, "set datestyle = 'ISO\u00a0'": {api.ErrLiteral, 0}, "set datestyle = 'DMY, é'": {api.ErrLiteral, 0}, "set datestyle = 'ISO,DMY,'''": {api.ErrLiteral, 0},
		"set intervalstyle = ''": {api.ErrLiteral, 0}, "set intervalstyle = 'sql'": {api.ErrLiteral, 0}, "set intervalstyle = 'iso 8601'": {api.ErrLiteral, 0}, "set intervalstyle = 'postgres, iso_8601'": {api.ErrLiteral, 0}, "set intervalstyle = 'ISO'": {api.ErrLiteral, 0},
		"set x = 'y'": {api.ErrName, 0}, "set time_zone = 'UTC'": {api.ErrName, 0}, "set Timezones to 'UTC'": {api.ErrName, 0}, "set to to 'to'": {api.ErrName, 0}, "set set = ''": {api.ErrName, 0}, "set show = 'x'": {api.ErrName, 0}, "set é = 'x'": {api.ErrName, 0},
		// What is set is a text.
		"set timezone = 5": {api.ErrSyntax, 0}, "set timezone = true": {api.ErrSyntax, 0}, "set timezone = 'UTC'::text": {api.ErrSyntax, 0}, "set timezone = date 'x'": {api.ErrSyntax, 0}, "set timezone to utc()": {api.ErrSyntax, 0}, "set x = 1 + 2": {api.ErrSyntax, 0}, "set x = - 'y'": {api.ErrSyntax, 0}, "set x = 'y' = 'y'": {api.ErrSyntax, 0}, "set x = 1.5": {api.ErrSyntax, 0}, "set x = not true": {api.ErrSyntax, 0},
		// What is no expression, with the place in the statement.
		"set timezone =": {api.ErrSyntax, 14}, "set timezone to": {api.ErrSyntax, 15}, "set timezone = ": {api.ErrSyntax, 15}, "set timezone = UTC": {api.ErrSyntax, 18}, "set timezone = 'UTC": {api.ErrSyntax, 15}, "set timezone = 'UTC' 'UTC'": {api.ErrSyntax, 21}, "set timezone == 'UTC'": {api.ErrSyntax, 14}, "set timezone = to 'UTC'": {api.ErrSyntax, 18}, "set x = ('y'": {api.ErrSyntax, 12}, "set é = )": {api.ErrSyntax, 9}, "set timezone = 'UTC';": {api.ErrSyntax, 20}, "set x =" + deep + "(": {api.ErrDeep, 27}, "set x to " + deep + "('y": {api.ErrSyntax, 30},
		// What is no SET is an expression.
		"set": {api.ErrSyntax, 3}, "set timezone": {api.ErrSyntax, 4}, "set timezone 'UTC'": {api.ErrSyntax, 4}, "set = 'x'": {api.ErrSyntax, 4}, "set timezone tox 'UTC'": {api.ErrSyntax, 4}, "set x1 = 'y'": {api.ErrSyntax, 4}, "set 5 = 'x'": {api.ErrSyntax, 4}, "sets timezone = 'UTC'": {api.ErrSyntax, 5}, "settimezone = 'UTC'": {api.ErrSyntax, 12}, "set(1)": {api.ErrType, 0}, "set 'timezone' = 'UTC'": {api.ErrSyntax, 4}, "set timezone => 'UTC'": {api.ErrSyntax, 14}, "reset timezone": {api.ErrSyntax, 6}, "(set timezone = 'UTC')": {api.ErrSyntax, 5}, "set timezone : = 'UTC'": {api.ErrSyntax, 4},
		// SHOW has two parts.
		"show": {api.ErrSyntax, 0}, " SHOW ": {api.ErrSyntax, 0}, "show timezone timezone": {api.ErrSyntax, 0}, "show timezone;": {api.ErrSyntax, 0}, "show(1)": {api.ErrSyntax, 0}, "show 'timezone'": {api.ErrSyntax, 0}, "show time zone": {api.ErrSyntax, 0}, "show timezone1": {api.ErrSyntax, 0}, "show = 1": {api.ErrSyntax, 0}, "show é": {api.ErrName, 0},
		// The second one is a name.
		"show 5": {api.ErrSyntax, 0}, "show1": {api.ErrSyntax, 0}, "Show 007": {api.ErrSyntax, 0}, "show (": {api.ErrSyntax, 0}, "SHOW =": {api.ErrSyntax, 0}, "show'": {api.ErrSyntax, 0}, "show\n;": {api.ErrSyntax, 0}, "show -": {api.ErrSyntax, 0}, "show 5 timezone": {api.ErrSyntax, 0}, "show 5x": {api.ErrSyntax, 0},
		"show _": {api.ErrName, 0}, "SHOW y_z": {api.ErrName, 0}, "show to": {api.ErrName, 0}, "show true": {api.ErrName, 0},
		"show x": {api.ErrName, 0}, "show all": {api.ErrName, 0}, "show time_zone": {api.ErrName, 0}, "show show": {api.ErrName, 0}, "Show Intervalstyles": {api.ErrName, 0}, "shows timezone": {api.ErrSyntax, 6}, "showtimezone": {api.ErrSyntax, 12},
		// What is no text of parts comes first.
		"set timezone = 'U\x00'": {api.ErrForm, 17}, "show \x7f": {api.ErrForm, 5}, "set x = \xff": {api.ErrForm, 8}, "set timezone = 'UTC'" + strings.Repeat(" ", 2029): {api.ErrSize, 0}, "show" + strings.Repeat(" x", 1100): {api.ErrSize, 0}, "1" + strings.Repeat(" ", 2048): {api.ErrSize, 0}, "1 \x1f": {api.ErrForm, 2},
	} {
		fails(t, s, text, want.e, want.at)
		if s.Zone() != "berlin" || s.Style() != (api.Style{Out: api.SQL, Order: api.YMD, Span: api.ISOSpan}) {
			t.Fatalf("behind %q: %q, %v", text, s.Zone(), s.Style())
		}
	}
	does(t, s, "show timezone", api.KText, "Europe/Berlin")
	does(t, s, "set timezone = 'UTC'"+strings.Repeat(" ", 2028), 0)
}

// P24.3: settings are what values are read and written by.
func TestSettingsAreUsed(t *testing.T) {
	s := opened(t, example)
	does(t, s, "date '1/2/2024'", api.KDate, "2024-01-02")
	does(t, s, "timestamptz '2024-07-01 12:00'", api.KTz, "2024-07-01 12:00:00+00")
	does(t, s, "interval '14 mons 3 days'", api.KSpan, "1 year 2 mons 3 days")
	does(t, s, "set timezone = 'Berlin'", 0)
	does(t, s, "timestamptz '2024-07-01 12:00'", api.KTz, "2024-07-01 12:00:00+02")
	does(t, s, "timestamptz '2024-07-01 12:00Z'", api.KTz, "2024-07-01 14:00:00+02")
	does(t, s, "set datestyle = 'SQL, DMY'", 0)
	does(t, s, "date '1/2/2024'", api.KDate, "01/02/2024")
	does(t, s, "date '1/2/2024' = date '2024-02-01'", api.KBool, "true")
	does(t, s, "timestamptz '2024-07-01 12:00'", api.KTz, "01/07/2024 12:00:00 CEST")
	does(t, s, "(timestamptz '2024-07-01 12:00')::text", api.KText, "01/07/2024 12:00:00 CEST")
	does(t, s, "set intervalstyle = 'iso_8601'", 0)
	does(t, s, "interval '14 mons 3 days'", api.KSpan, "P1Y2M3D")
	does(t, s, "set intervalstyle = 'sql_standard'", 0)
	does(t, s, "interval '14 mons 3 days'::text", api.KText, "+1-2 +3 +0:00:00")
	does(t, s, "set datestyle = 'ISO, YMD'", 0)
	does(t, s, "timestamptz '24-07-01 12:00'", api.KTz, "2024-07-01 12:00:00+02")
}

// P24.2: how many rows there may be.
func TestMost(t *testing.T) {
	s := opened(t, example)
	one, _, _ := expr.Parse("1 + 1")
	zero, _, _ := expr.Parse("1 / 0")
	none, _, _ := expr.Parse("1 + true")
	for _, most := range []int{math.MinInt, -1, 1001, math.MaxInt, math.MinInt32, math.MaxInt32} {
		for _, n := range []expr.Node{one, zero} {
			if l, e := s.Eval(n, most); l != nil || e != api.ErrArg {
				t.Error("Eval", most, l, e)
			}
		}
		if l, e := s.Eval(none, most); l != nil || e != api.ErrType {
			t.Error("Eval", most, l, e)
		}
		checkAnswer(t, "1 / 0", s.Do("1 / 0", most), sess.Answer{Err: api.ErrArg})
		checkAnswer(t, "1 + true", s.Do("1 + true", most), sess.Answer{Err: api.ErrType, At: 2})
		checkAnswer(t, "1 +", s.Do("1 +", most), sess.Answer{Err: api.ErrSyntax, At: 3})
	}
	for _, most := range []int{0, 1, 1000} {
		if l, e := s.Eval(one, most); e != api.OK || len(l) != 1 || l[0] != (api.Value{K: api.KInt, Int: 2}) {
			t.Error("Eval", most, l, e)
		}
		if l, e := s.Eval(zero, most); l != nil || e != api.ErrZero {
			t.Error("Eval", most, l, e)
		}
	}
	checkAnswer(t, "none", s.Do("generate_series(1, 0, 1)", 0), sess.Answer{Kind: api.KInt})
	checkAnswer(t, "one", s.Do("generate_series(1, 1, 1)", 0), sess.Answer{Err: api.ErrRows})
	if a := s.Do("generate_series(1, 1000, 1)", 1000); a.Err != api.OK || len(a.Rows) != 1000 || a.Rows[999] != "1000" {
		t.Error("Do", a.Err, len(a.Rows))
	}
	checkAnswer(t, "many", s.Do("generate_series(1, 1001, 1)", 1000), sess.Answer{Err: api.ErrRows})
}

// Rules 4 and 5: what is written into answers and lists is seen by nobody.
func TestAnswersAreNew(t *testing.T) {
	s := opened(t, example)
	l := s.Names()
	l[0] = "x"
	_ = append(l[:1], "y")
	if again := s.Names(); !slices.Equal(again, []string{"Berlin", "Europe/Berlin", "UTC"}) {
		t.Error("Names", again)
	}
	a := s.Do("generate_series(1, 3, 1)", 9)
	a.Rows[0] = "x"
	_ = append(a.Rows[:1], "y")
	b := s.Do("generate_series(1, 3, 1)", 9)
	if !slices.Equal(b.Rows, []string{"1", "2", "3"}) {
		t.Error("Do", b)
	}
	n, _, _ := expr.Parse("generate_series(1, 3, 1)")
	v, _ := s.Eval(n, 9)
	v[0].Int = 7
	w, e := s.Eval(n, 9)
	if e != api.OK || len(w) != 3 || w[0].Int != 1 || expr.String(n) != "generate_series(1, 3, 1)" {
		t.Error("Eval", w, e)
	}
	script := []string{"set timezone = 'Berlin'", "1"}
	answers := s.Run(script, 9)
	script[0], answers[1].Kind = "x", 5
	if s.Zone() != "Berlin" {
		t.Error("Run", s.Zone())
	}
}
