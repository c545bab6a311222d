package sess_test

import (
	"math/rand"
	"regexp"
	"slices"
	"strings"
	"testing"

	"computus/api"
	"computus/comp"
	"computus/expr"
	"computus/kind"
	"computus/names"
	"computus/read"
	"computus/sess"
	"computus/show"
	"computus/stamp"
	"computus/word"
	"computus/zone"
)

// writer writes expressions by chance, mostly of a kind.
type writer struct {
	r    *rand.Rand
	rows map[string][]string // by what comes of them
}

func newWriter(t *testing.T, r *rand.Rand) *writer {
	t.Helper()
	w := &writer{r, map[string][]string{}}
	keys := []string{}
	for key := range allRows() {
		keys = append(keys, key)
	}
	slices.Sort(keys)
	for _, key := range keys {
		op, args := parted(key)
		var l []int
		for _, a := range args {
			l = append(l, slices.Index(kindNames, a))
		}
		k, list, ok := kind.Find(op, l)
		if !ok {
			t.Fatal("no row", key)
		}
		if !list {
			w.rows[kindNames[k]] = append(w.rows[kindNames[k]], key)
		}
	}
	return w
}

// parted is a row's operation and the kinds of its arguments.
func parted(key string) (string, []string) {
	op, args, _ := strings.Cut(strings.TrimSuffix(key, ")"), "(")
	return op, strings.Split(args, ", ")
}

func (w *writer) pick(l ...string) string { return l[w.r.Intn(len(l))] }

// said is a text that tells a value of a kind, or mostly so.
func (w *writer) said(k string) string {
	if w.r.Intn(40) == 0 {
		return w.pick("x", "", "2024-02-30", "1 2", "infinit", "99999999999999999999", "294277-01-01", "1.0000000001")
	}
	if w.r.Intn(12) == 0 && k != "int" && k != "numeric" && k != "text" {
		return w.pick("infinity", "-infinity", "Infinity")
	}
	switch k {
	case "date":
		return w.pick("2024-03-31", "2024-02-29", "2024-10-27", "2024-01-31", "1893-04-01", "4713-01-01 BC", "294276-12-31", "epoch", "1/2/2024", "02.01.24", "31 Mar 2024", "0044-03-15 BC", "2000-01-01", "20240331", "13/2/2024")
	case "timestamp":
		return w.pick("2024-03-31 02:30", "2024-10-27 02:30", "2024-10-27 03:00:00.000001", "4713-01-01 00:00 BC", "294276-12-31 23:59:59.999999", "epoch", "1/2/2024 24:00", "2024-01-31T12:34:56.789", "1893-04-01 00:00", "2024-12-31", "0001-01-01 00:00 BC", "2001-01-01")
	case "timestamptz":
		return w.pick("2024-03-31 00:30Z", "2024-03-31 02:30", "2024-10-27 02:30 CET", "2024-10-27 02:30 CEST", "2024-10-27 02:30", "2024-07-01 12:00+05:30", "2024-07-01 12:00 Berlin", "2024-07-01 12:00 America/New_York", "epoch", "4713-01-02 00:00Z BC", "294276-12-31 23:59:59Z", "294276-12-30 12:00Z", "1800-01-01 12:00 UTC", "2024-03-10 02:30 EST", "2024-07-01 12:00 Nowhere", "2040-03-25 00:59:59.999999Z")
	case "interval":
		return w.pick("1 day", "1 mon", "-1 mons +1 day", "24:00:00", "00:00:00", "2147483647 mons", "-2147483647 days", "P1Y2M3DT4H", "1 year ago", "1 week 3 min", "+1-2 -3 +4:05:06.5", "00:15:00", "90 days 25:00:00", "-00:00:00.000001", "2562047788:00:54.775807", "1 month -30 days")
	case "int":
		return w.pick("0", "1", "-1", "7", "+12", "365", "9223372036854775807", "-9223372036854775808", "1.5")
	case "numeric":
		return w.pick("0.5", "-1.50", "1", "0.000000001", "9223372036.854775807", "-9223372036854775808", "12.340")
	}
	return w.pick("a", "A", "", "it's", "é", "2024-01-01", "12", "day", "UTC")
}

func quoted(s string) string { return "'" + strings.ReplaceAll(s, "'", "''") + "'" }

// leaf is a part that is written out.
func (w *writer) leaf(k string) string {
	switch k {
	case "bool":
		return w.pick("true", "false")
	case "int":
		return w.pick("0", "1", "2", "3", "7", "12", "30", "365", "2024", "1000000", "86400", "2147483647", "9223372036854775807", "9223372036854775808", "(- 1)", "(- 7)", "(- 9223372036854775807 - 1)")
	case "numeric":
		return w.pick("0.0", "1.5", "2.5", "0.000000001", "12.340", "9223372036.854775807", "922337203685477580.7", "(- 0.5)", "(- 2.5)", "1.00", "1.0000000001", "99999999999999999999.5")
	case "text":
		return quoted(w.said("text"))
	}
	if w.r.Intn(4) == 0 {
		return quoted(w.said(k)) + "::" + k
	}
	return k + " " + quoted(w.said(k))
}

// field is the text of an argument that is no value of its own.
func (w *writer) field(op string, place int, to string) string {
	switch {
	case op == "at time zone", op == "date_trunc" && place == 2:
		return quoted(w.pick("UTC", "utc", "Europe/Berlin", "berlin", "BERLIN", "America/New_York", "Asia/Kolkata", "Half", "Most", "Least", "Nowhere"))
	case op == "date_trunc":
		return quoted(w.pick("microseconds", "milliseconds", "second", "minute", "HOUR", "day", "Week", "month", "quarter", "year", "decade", "century", "millennium", "dow", "x"))
	case op == "extract":
		return quoted(w.pick("microseconds", "milliseconds", "second", "minute", "hour", "day", "week", "month", "quarter", "year", "decade", "century", "millennium", "dow", "ISODOW", "doy", "isoyear", "epoch", "timezone", "x"))
	}
	return quoted(w.said(to))
}

// one is an expression of a kind.
func (w *writer) one(k string, deep int) string {
	if deep == 0 || w.r.Intn(6) == 0 {
		return w.leaf(k)
	}
	return w.of(w.rows[k][w.r.Intn(len(w.rows[k]))], deep)
}

// of is an expression of a row.
func (w *writer) of(key string, deep int) string {
	op, kinds := parted(key)
	var args []string
	for i, a := range kinds {
		s := ""
		to, cast := strings.CutPrefix(op, "::")
		if op == "make_date" && w.r.Intn(3) > 0 {
			s = []string{w.pick("2024", "1", "(- 1)", "(- 4713)", "294276", "0"), w.pick("1", "2", "12"), w.pick("1", "28", "29", "31")}[i]
		} else if a == "text" && w.r.Intn(12) > 0 && (cast && to != "text" || op == "at time zone" || op == "date_trunc" || op == "extract") {
			s = w.field(op, i, to)
		} else {
			s = w.one(a, deep-1)
		}
		args = append(args, s)
	}
	switch {
	case op == "neg" && w.r.Intn(3) > 0:
		return "(- " + args[0] + ")"
	case op == "not":
		return "(not " + args[0] + ")"
	case strings.HasPrefix(op, "::"):
		return "(" + args[0] + ")" + op
	case strings.ContainsAny(op[:1], "+-*/%=<>") || op == "and" || op == "or" || op == "at time zone":
		return "(" + args[0] + " " + op + " " + args[1] + ")"
	}
	return op + "(" + strings.Join(args, ", ") + ")"
}

// settings is a session's, as the tests know them.
type settings struct {
	zone  string
	style api.Style
}

var (
	outWords   = []string{"ISO", "SQL"}
	orderWords = []string{"YMD", "DMY", "MDY"}
	spanWords  = []string{"postgres", "sql_standard", "iso_8601"}
)

// set brings a session to settings by statements.
func set(t *testing.T, s *sess.Session, to settings) {
	t.Helper()
	does(t, s, "set timezone = '"+to.zone+"'", 0)
	does(t, s, "set datestyle to '"+outWords[to.style.Out]+", "+orderWords[to.style.Order]+"'", 0)
	does(t, s, "set intervalstyle = '"+spanWords[to.style.Span]+"'", 0)
}

func someSettings(r *rand.Rand) settings {
	zones := []string{"UTC", "Berlin", "europe/berlin", "America/New_York", "Asia/Kolkata", "half", "MOST", "Least"}
	return settings{zones[r.Intn(len(zones))], api.Style{Out: r.Intn(2), Order: r.Intn(3), Span: r.Intn(3)}}
}

func loaded(t *testing.T) *names.Book {
	t.Helper()
	b, _, _, e := names.Load(wide)
	if e != api.OK {
		t.Fatal("Load", e)
	}
	return b
}

func table(t *testing.T, b *names.Book, name string) comp.Table {
	t.Helper()
	z, e := b.Find(name)
	if e != api.OK {
		t.Fatal("Find", name, e)
	}
	return z
}

// wanted is what Do must tell of an expression that has a kind.
func wanted(o oracle, n expr.Node, k int) ([]api.Value, sess.Answer) {
	l, e := o.values(n)
	if e != api.OK {
		return nil, sess.Answer{Err: e}
	}
	a := sess.Answer{Kind: k}
	for _, v := range l {
		s, e := show.Value(v, o.env.Zone, o.env.Style)
		if e != api.OK {
			return l, sess.Answer{Err: e}
		}
		a.Rows = append(a.Rows, s)
	}
	return l, a
}

// checkAny holds an expression against the oracle; true, if it is OK.
func checkAny(t *testing.T, s *sess.Session, o oracle, text string) bool {
	t.Helper()
	n, _, e := expr.Parse(text)
	if e == api.ErrDeep || e == api.ErrSize {
		return false
	}
	k, _, _, e2 := kind.Check(n)
	if e != api.OK || e2 != api.OK {
		t.Fatalf("%q: %d, %d", text, e, e2)
	}
	values, want := wanted(o, n, k)
	got := s.Do(text, o.most)
	if got.Err != want.Err || got.At != 0 || got.Kind != want.Kind || !slices.Equal(got.Rows, want.Rows) {
		t.Fatalf("Do(%q) = %v, want %v (%q, %v)", text, got, want, s.Zone(), s.Style())
	}
	l, e := s.Eval(n, o.most)
	if !slices.Equal(l, values) || e != want.Err && values == nil || e != api.OK && values != nil {
		t.Fatalf("Eval(%q) = %v, %d, want %v", text, l, e, values)
	}
	for _, v := range l {
		if v.K != k || !show.RightValue(v) {
			t.Fatalf("Eval(%q) = %v, no value of %d", text, v, k)
		}
	}
	return got.Err == api.OK
}

// All rows of the table are known here, and no others.
func TestAllRows(t *testing.T) {
	rows := allRows()
	found := 0
	var lists func(l []int)
	lists = func(l []int) {
		var kinds []string
		for _, k := range l {
			kinds = append(kinds, kindNames[k])
		}
		for _, op := range kind.Ops() {
			if _, _, ok := kind.Find(op, l); ok {
				found++
				if rows[op+"("+strings.Join(kinds, ", ")+")"] == nil {
					t.Error("no row", op, kinds)
				}
			}
		}
		for k := 1; k <= 8 && len(l) < 4; k++ {
			lists(append(slices.Clone(l), k))
		}
	}
	lists(nil)
	if found != len(rows) {
		t.Error("rows", found, len(rows))
	}
}

// P1, P24.2, P24.3: each row of the table, and whatever is put together by it.
func TestAnyExpression(t *testing.T) {
	r := rand.New(rand.NewSource(241))
	w := newWriter(t, r)
	book := loaded(t)
	s := opened(t, wide)
	o := oracle{rows: allRows()}
	right, all := map[string]int{}, 0
	change := func() {
		to := someSettings(r)
		set(t, s, to)
		o.env = read.Env{Style: to.style, Zone: table(t, book, to.zone), Book: book}
		o.most = []int{0, 3, 20, 1000}[r.Intn(4)]
	}
	var keys []string
	for key := range o.rows {
		keys = append(keys, key)
	}
	slices.Sort(keys)
	for i := range 400 {
		change()
		for _, key := range keys {
			if checkAny(t, s, o, w.of(key, 1+i%3)) {
				right[key]++
			}
			all++
		}
	}
	for _, key := range keys {
		if right[key] < 20 {
			t.Error("too few that are OK", key, right[key])
		}
	}
	for range 20000 {
		if r.Intn(50) == 0 {
			change()
		}
		checkAny(t, s, o, w.one(kindNames[1+r.Intn(8)], 1+r.Intn(4)))
		all++
	}
	if steps := s.Steps(); steps < int64(all) {
		t.Error("Steps", steps, all)
	}
}

// P24.4: whatever was asked ahead, but for settings, plays no part.
func TestAheadPlaysNoPart(t *testing.T) {
	r := rand.New(rand.NewSource(242))
	w := newWriter(t, r)
	old := opened(t, wide)
	for range 300 {
		to := someSettings(r)
		fresh := opened(t, wide)
		set(t, fresh, to)
		set(t, old, to)
		text := w.one(kindNames[1+r.Intn(8)], 1+r.Intn(3))
		a, b := fresh.Do(text, 10), old.Do(text, 10)
		checkAnswer(t, text, b, a)
		checkAnswer(t, text, old.Do(text, 10), a)
		old.Do(w.one("text", 2)+" +", 10)
	}
}

// some is a stamp by chance: anywhere, or near a shift of clocks.
func some(r *rand.Rand, z comp.Table) api.Stamp {
	switch r.Intn(12) {
	case 0:
		return api.Stamp{Inf: 1 - 2*r.Intn(2)}
	case 1, 2:
		return api.Stamp{U: r.Int63n(9223371331200000000)} // up to 294276
	case 3:
		return api.Stamp{U: -r.Int63n(211813488000000000)} // down to 4713 BC
	}
	// Within two hours of a shift.
	from := r.Int63n(4e9) - 2e8
	for range 8 {
		if l, _ := zone.Changes(z, from, from+4000000); len(l) > 0 {
			from = l[0]
			break
		}
		from += 4000000
	}
	return api.Stamp{U: (from-946684800)*1000000 + r.Int63n(4*3600*1000000) - 2*3600*1000000}
}

// evaluated is an expression's one value.
func evaluated(t *testing.T, s *sess.Session, text string) (api.Value, api.Errno) {
	t.Helper()
	n, _, e := expr.Parse(text)
	if e != api.OK {
		t.Fatal("Parse", text, e)
	}
	l, e := s.Eval(n, 0)
	if e != api.OK {
		return api.Value{}, e
	}
	return l[0], e
}

// P24.5, P5: in a zone, and back.
func TestInZoneAndBack(t *testing.T) {
	r := rand.New(rand.NewSource(243))
	book := loaded(t)
	s := opened(t, wide)
	once, twice, never, both := 0, 0, 0, 0
	for range 20000 {
		name := book.All()[r.Intn(len(book.All()))]
		z := table(t, book, name)
		x := some(r, z)
		text, e := show.Stamp(x, api.Style{})
		if e != api.OK {
			continue
		}
		at := " at time zone '" + name + "'"
		// An instant: its text in the session's zone, which is UTC.
		v, e := evaluated(t, s, "timestamptz '"+text+"'"+at+at)
		l, e2 := stamp.Local(z, x)
		first, often, e3 := stamp.Instant(z, l)
		switch {
		case e2 != api.OK || e3 != api.OK:
			if e != api.ErrRange {
				t.Fatal(text, name, v, e)
			}
		case e != api.OK || v.K != api.KTz || v.Stamp != first:
			t.Fatal(text, name, v, e)
		case v.Stamp == x:
			once++
		default:
			// The later one of two readings.
			if again, _ := stamp.Local(z, v.Stamp); often != 1 || v.Stamp.U >= x.U || again != l {
				t.Fatal(text, name, v, often)
			}
			twice++
		}
		// What clocks say.
		v, e = evaluated(t, s, "timestamp '"+text+"'"+at+at)
		_, often, e2 = stamp.Instant(z, x)
		if e2 != api.OK {
			if e != api.ErrRange {
				t.Fatal(text, name, v, e)
			}
			continue
		}
		if e != api.OK || v.K != api.KStamp || (v.Stamp == x) != (often != 2) {
			t.Fatal(text, name, v, e, often)
		}
		if often == 2 {
			never++
		} else {
			both++
		}
	}
	if once < 5000 || twice < 100 || never < 100 || both < 5000 {
		t.Error("too few", once, twice, never, both)
	}
}

// resolves: does what clocks are called at an instant tell how far they are
// ahead then?
func resolves(t *testing.T, b *names.Book, s *sess.Session, x api.Stamp) bool {
	t.Helper()
	if x.Inf != 0 {
		return true
	}
	z := table(t, b, s.Zone())
	stands, e := stamp.Offset(z, x)
	l, e2 := stamp.Local(z, x)
	if e != api.OK || e2 != api.OK {
		return false
	}
	told, e := read.Zone(stands.Abbr, read.Env{Style: s.Style(), Zone: z, Book: b}, l)
	return e == api.OK && told == x
}

// P24.6, P4: a value's text, cast back, is the value.
func TestTextAndBack(t *testing.T) {
	r := rand.New(rand.NewSource(244))
	w := newWriter(t, r)
	book := loaded(t)
	s := opened(t, wide)
	back := map[int]int{}
	for i := range 20000 {
		if i%40 == 0 {
			set(t, s, someSettings(r))
		}
		k := 2 + r.Intn(7)
		text := w.one(kindNames[k], 2)
		switch {
		case k > 4 && r.Intn(2) == 0:
			text, _ = show.Stamp(some(r, table(t, book, "Berlin")), api.Style{})
			text = "('" + strings.TrimSuffix(text, " BC") + "Z" + map[bool]string{true: " BC"}[strings.HasSuffix(text, " BC")] + "'::timestamptz)"
			if strings.Contains(text, "infinity") {
				continue
			}
			text += map[int]string{5: "::date", 6: "::timestamp", 7: "", 8: " - timestamptz 'epoch'"}[k]
			text = "(" + text + ")"
		}
		v, e := evaluated(t, s, text)
		if e != api.OK || k == api.KTz && s.Style().Out == api.SQL && !resolves(t, book, s, v.Stamp) {
			continue
		}
		again, e := evaluated(t, s, text+"::text::"+kindNames[k])
		if e == api.ErrRange && k == api.KTz {
			continue // what clocks say then can be no stamp, or can not be written
		}
		if e != api.OK || again != v {
			t.Fatalf("%q = %v, and back %v, %d (%q, %v)", text, v, again, e, s.Zone(), s.Style())
		}
		back[k]++
	}
	for k := 2; k <= 8; k++ {
		if back[k] < 400 {
			t.Error("too few there and back", kindNames[k], back[k])
		}
	}
}

const (
	blank  = `[ \t\n\r]`
	letter = `[a-zA-Z_\x{80}-\x{10ffff}]`
)

var (
	setForm  = regexp.MustCompile(`^` + blank + `*(?i:set)` + blank + `+(` + letter + `+)(?:` + blank + `*=|` + blank + `+(?i:to))`)
	showForm = regexp.MustCompile(`^` + blank + `*(?i:show)(?:$|[^a-zA-Z_\x{80}-\x{10ffff}])`)
	partForm = regexp.MustCompile(`[0-9]+|` + letter + `+|[^ \t\n\r]`)
	toLetter = regexp.MustCompile(`(?i:to)$`)
	isLetter = regexp.MustCompile(`^` + letter)
)

// judge is what a statement must do to settings, and tell, if it is a SET or a SHOW.
func judge(t *testing.T, b *names.Book, text string, now settings) (sess.Answer, settings, bool) {
	t.Helper()
	if _, at, e := word.Split(text); e != api.OK {
		return sess.Answer{Err: e, At: at}, now, true
	}
	if m := setForm.FindStringSubmatchIndex(text); m != nil && !(toLetter.MatchString(text[:m[1]]) && isLetter.MatchString(text[m[1]:])) {
		n, at, e := expr.Parse(text[m[1]:])
		if e != api.OK {
			return sess.Answer{Err: e, At: at + m[1]}, now, true
		}
		if n.Kind != expr.Text {
			return sess.Answer{Err: api.ErrSyntax}, now, true
		}
		then, e := changed(b, strings.ToLower(text[m[2]:m[3]]), n.Text, now)
		return sess.Answer{Err: e}, then, true
	}
	if !showForm.MatchString(text) {
		return sess.Answer{}, now, false
	}
	parts := partForm.FindAllString(text, -1)
	if len(parts) != 2 || !isLetter.MatchString(parts[1]) {
		return sess.Answer{Err: api.ErrSyntax}, now, true
	}
	row := ""
	switch strings.ToLower(parts[1]) {
	case "timezone":
		row, _ = b.Real(now.zone)
	case "datestyle":
		row = outWords[now.style.Out] + ", " + orderWords[now.style.Order]
	case "intervalstyle":
		row = spanWords[now.style.Span]
	default:
		return sess.Answer{Err: api.ErrName}, now, true
	}
	return sess.Answer{Kind: api.KText, Rows: []string{row}}, now, true
}

// place is the place of a word, great letters or small; -1, if there is none.
func place(l []string, s string) int {
	return slices.IndexFunc(l, func(x string) bool { return strings.ToLower(x) == strings.ToLower(s) })
}

// changed is settings behind a SET.
func changed(b *names.Book, name, to string, now settings) (settings, api.Errno) {
	then := now
	switch name {
	case "timezone":
		if _, e := b.Find(to); e != api.OK {
			return now, api.ErrZone
		}
		then.zone = to
	case "datestyle":
		outs, orders := 0, 0
		for _, x := range strings.Fields(strings.ReplaceAll(to, ",", " ")) {
			if i := place(outWords, x); i >= 0 {
				then.style.Out = i
				outs++
			} else if i := place(orderWords, x); i >= 0 {
				then.style.Order = i
				orders++
			} else {
				return now, api.ErrLiteral
			}
		}
		if outs > 1 || orders > 1 || outs+orders == 0 {
			return now, api.ErrLiteral
		}
	case "intervalstyle":
		then.style.Span = place(spanWords, to)
		if then.style.Span < 0 {
			return now, api.ErrLiteral
		}
	default:
		return now, api.ErrName
	}
	return then, api.OK
}

// checkJudged runs a statement, and tells the settings behind it.
func checkJudged(t *testing.T, s *sess.Session, b *names.Book, text string, now settings) (settings, bool) {
	t.Helper()
	want, then, known := judge(t, b, text, now)
	got := s.Do(text, 5)
	if !known {
		want = expression(s, text)
	}
	if got.Err != want.Err || got.At != want.At || got.Kind != want.Kind || !slices.Equal(got.Rows, want.Rows) {
		t.Fatalf("Do(%q) = %v, want %v", text, got, want)
	}
	if s.Zone() != then.zone || s.Style() != then.style {
		t.Fatalf("behind %q: %q, %v, want %v", text, s.Zone(), s.Style(), then)
	}
	return then, known && want.Err == api.OK
}

// expression is what comes of a text that is one.
func expression(s *sess.Session, text string) sess.Answer {
	n, at, e := expr.Parse(text)
	if e != api.OK {
		return sess.Answer{Err: e, At: at}
	}
	if _, _, at, e := kind.Check(n); e != api.OK {
		return sess.Answer{Err: e, At: at}
	}
	return s.Do("("+expr.String(n)+")", 5)
}

// P3, P24.3: whatever statements, each answer, and what fails changes no setting.
func TestAnyStatement(t *testing.T) {
	r := rand.New(rand.NewSource(245))
	book := loaded(t)
	s := opened(t, wide)
	now := settings{"UTC", api.Style{Order: api.MDY}}
	tokens := []string{"set", "SET", "Set", "show", "SHOW", "timezone", "TimeZone", "datestyle", "intervalstyle", "x", "é", "_", "to", "TO", "tO", "=", "=", "==", "1", "1 + 1", "(", ")", "'", "''", "'UTC'", "'berlin'", "'Nowhere'", "'ISO'", "'sql, dmy'", "'YMD,iso'", "'mdy mdy'", "'postgres'", "'Iso_8601'", "'sql_standard'", "::text", "true", "f()", ",", ";", "\t", "\n", "\x00", "\xff", "date 'x'"}
	fine := 0
	for range 60000 {
		var l []string
		if r.Intn(2) == 0 {
			// Nearly a statement.
			l = [][]string{{"set", "timezone", "=", "'"}, {"SET", "datestyle", "to", "'"}, {"set", "IntervalStyle", "=", "'"}, {"show", "timezone"}, {"Show", "DATESTYLE"}, {"show", "intervalstyle"}}[r.Intn(6)]
			l = slices.Clone(l)
			if len(l) == 4 {
				l[3] = tokens[22+r.Intn(13)]
			}
			if i := r.Intn(3 * len(l)); i < len(l) {
				l[i] = tokens[r.Intn(len(tokens))]
			}
		} else {
			for range r.Intn(7) {
				l = append(l, tokens[r.Intn(len(tokens))])
			}
		}
		var b strings.Builder
		for _, x := range l {
			b.WriteString([]string{"", " ", " ", "  ", "\n"}[r.Intn(5)] + x)
		}
		then, ok := checkJudged(t, s, book, b.String(), now)
		now = then
		if ok {
			fine++
		}
	}
	if fine < 5000 {
		t.Error("too few that are OK", fine)
	}
}

// P3, P6: bytes of any kind end with a value or just one error.
func TestAnyBytes(t *testing.T) {
	r := rand.New(rand.NewSource(246))
	book := loaded(t)
	s := opened(t, wide)
	now := settings{"UTC", api.Style{Order: api.MDY}}
	near := "set to=show'timezone' datestyle 'ISO, MDY'01.:()<>+-*/%,;_\t\n\r\x00\x1f\x7f\x80\xc3\xa4\xff"
	for range 40000 {
		b := make([]byte, r.Intn(30))
		for i := range b {
			b[i] = near[r.Intn(len(near))]
			if r.Intn(30) == 0 {
				b[i] = byte(r.Intn(256))
			}
		}
		text := string(b)
		if r.Intn(3) == 0 {
			text = "set datestyle = '" + text
		}
		if r.Intn(6) == 0 {
			text += "'"
		}
		now, _ = checkJudged(t, s, book, text, now)
	}
	for range 200 {
		b := make([]byte, 2040+r.Intn(20))
		for i := range b {
			b[i] = near[r.Intn(len(near))]
		}
		now, _ = checkJudged(t, s, book, string(b), now)
	}
}

// The ten examples of the whole document.
func TestExamples(t *testing.T) {
	s := berlin(t)
	does(t, s, "timestamptz '2024-03-31 00:30Z'", api.KTz, "2024-03-31 01:30:00+01")
	does(t, s, "timestamptz '2024-03-31 00:30Z' + interval '1 hour'", api.KTz, "2024-03-31 03:30:00+02")
	does(t, s, "timestamptz '2024-03-30 12:00' + interval '1 day'", api.KTz, "2024-03-31 12:00:00+02")
	does(t, s, "timestamptz '2024-03-30 12:00' + interval '24 hours'", api.KTz, "2024-03-31 13:00:00+02")
	does(t, s, "timestamp '2024-10-27 02:30' at time zone 'Berlin'", api.KTz, "2024-10-27 02:30:00+02")
	does(t, s, "date '2024-01-31' + interval '1 month'", api.KStamp, "2024-02-29 00:00:00")
	does(t, s, "generate_series(timestamp '2024-01-31', timestamp '2024-05-01', interval '1 month')", api.KStamp, "2024-01-31 00:00:00", "2024-02-29 00:00:00", "2024-03-29 00:00:00", "2024-04-29 00:00:00")
	does(t, s, "date_trunc('week', timestamp '2024-03-31')", api.KStamp, "2024-03-25 00:00:00")
	does(t, s, "extract('century', date '2000-01-01')", api.KDec, "20")
	does(t, s, "SET datestyle = 'SQL, DMY'", 0)
	does(t, s, "timestamptz '2024-07-01 12:00'", api.KTz, "01/07/2024 12:00:00 CEST")
	fails(t, s, "date '294276-12-31' + 1", api.ErrRange, 0)
	fails(t, s, "1 / 0", api.ErrZero, 0)
	fails(t, s, "1 + true", api.ErrType, 2)
	does(t, s, "justify(interval '35 days 25 hours')", api.KSpan, "1 mon 6 days 01:00:00")
	if _, line, _, e := sess.New("Zone A 1 - X\nLink A A"); line != 2 || e != api.ErrName {
		t.Error("New", line, e)
	}
}
