package sess_test

import (
	"math/big"
	"strings"

	"computus/api"
	"computus/day"
	"computus/dec"
	"computus/expr"
	"computus/ops"
	"computus/read"
	"computus/series"
	"computus/show"
	"computus/span"
	"computus/stamp"
)

// oracle is a second reading of the chapter: each row of the table of kinds has
// a function of its own, and numbers are of any size.
type oracle struct {
	env  read.Env
	most int
	rows map[string]row
}

type row func(o oracle, a []api.Value) ([]api.Value, api.Errno)

var kindNames = []string{"", "bool", "int", "numeric", "text", "date", "timestamp", "timestamptz", "interval"}

func ofBool(x bool) []api.Value           { return []api.Value{{K: 1, Bool: x}} }
func ofInt(x int64) []api.Value           { return []api.Value{{K: 2, Int: x}} }
func ofDec(n int64, s int) []api.Value    { return []api.Value{{K: 3, Int: n, Scale: s}} }
func ofText(x string) []api.Value         { return []api.Value{{K: 4, Text: x}} }
func ofDate(x api.Date) []api.Value       { return []api.Value{{K: 5, Date: x}} }
func ofStamp(x api.Stamp) []api.Value     { return []api.Value{{K: 6, Stamp: x}} }
func ofInstant(x api.Stamp) []api.Value   { return []api.Value{{K: 7, Stamp: x}} }
func ofSpan(x api.Span) []api.Value       { return []api.Value{{K: 8, Span: x}} }
func ofLike(k int, x api.Stamp) api.Value { return api.Value{K: k, Stamp: x} }

// values is those of an expression that has a kind.
func (o oracle) values(n expr.Node) ([]api.Value, api.Errno) {
	switch n.Kind {
	case expr.Int, expr.Dec:
		whole, places, _ := strings.Cut(n.Text, ".")
		return decimal(whole, places, n.Kind == expr.Int)
	case expr.Text:
		return ofText(n.Text), api.OK
	case expr.Bool:
		return ofBool(n.Text == "true"), api.OK
	}
	var args []api.Value
	var kinds []string
	for _, kid := range n.Kids {
		l, e := o.values(kid)
		if e != api.OK {
			return nil, e
		}
		args = append(args, l[0])
		kinds = append(kinds, kindNames[l[0].K])
	}
	op := map[int]string{expr.Lit: "::" + n.Text, expr.Cast: "::" + n.Text, expr.Neg: "neg", expr.Not: "not", expr.Op: n.Text, expr.Call: n.Text}[n.Kind]
	l, e := o.rows[op+"("+strings.Join(kinds, ", ")+")"](o, args)
	if e != api.OK {
		return nil, e
	}
	return l, e
}

// decimal is a number of digits with so many places, or a whole one.
func decimal(whole, places string, isInt bool) ([]api.Value, api.Errno) {
	if len(places) > 9 {
		return nil, api.ErrLiteral
	}
	n, _ := new(big.Int).SetString(whole+places, 10)
	if !n.IsInt64() {
		return nil, api.ErrRange
	}
	if isInt {
		return ofInt(n.Int64()), api.OK
	}
	return ofDec(n.Int64(), len(places)), api.OK
}

// readDecimal is a text as a number; of a whole one it may have no places.
func readDecimal(s string, isInt bool) ([]api.Value, api.Errno) {
	sign := ""
	if s != "" && (s[0] == '-' || s[0] == '+') {
		sign, s = s[:1], s[1:]
	}
	whole, places, point := strings.Cut(s, ".")
	if whole == "" || point && places == "" || strings.Trim(whole+places, "0123456789") != "" {
		return nil, api.ErrLiteral
	}
	l, e := decimal(sign+whole, places, false)
	if e == api.OK && isInt {
		if point {
			return nil, api.ErrLiteral
		}
		return ofInt(l[0].Int), api.OK
	}
	return l, e
}

// wholes is what comes of two whole numbers.
func wholes(reckon func(z, a, b *big.Int) *big.Int) row {
	return func(o oracle, a []api.Value) ([]api.Value, api.Errno) {
		n := reckon(new(big.Int), big.NewInt(a[0].Int), big.NewInt(a[1].Int))
		if !n.IsInt64() {
			return nil, api.ErrRange
		}
		return ofInt(n.Int64()), api.OK
	}
}

// unlessZero is a row that goes by no nought.
func unlessZero(r row) row {
	return func(o oracle, a []api.Value) ([]api.Value, api.Errno) {
		if a[1].Int == 0 {
			return nil, api.ErrZero
		}
		return r(o, a)
	}
}

// scaled is a number's N with so many places.
func scaled(v api.Value, scale int) *big.Int {
	n := big.NewInt(v.Int)
	for range scale - v.Scale {
		n.Mul(n, big.NewInt(10))
	}
	return n
}

// places is the sum, or the difference, of two numbers of which one has places.
func places(reckon func(z, a, b *big.Int) *big.Int) row {
	return func(o oracle, a []api.Value) ([]api.Value, api.Errno) {
		scale := max(a[0].Scale, a[1].Scale)
		x, y := scaled(a[0], scale), scaled(a[1], scale)
		n := reckon(new(big.Int), x, y)
		if !x.IsInt64() || !y.IsInt64() || !n.IsInt64() {
			return nil, api.ErrRange
		}
		return ofDec(n.Int64(), scale), api.OK
	}
}

func product(o oracle, a []api.Value) ([]api.Value, api.Errno) {
	n := new(big.Int).Mul(big.NewInt(a[0].Int), big.NewInt(a[1].Int))
	if !n.IsInt64() || a[0].Scale+a[1].Scale > 9 {
		return nil, api.ErrRange
	}
	return ofDec(n.Int64(), a[0].Scale+a[1].Scale), api.OK
}

// swapped is a row whose arguments stand the other way round.
func swapped(r row) row {
	return func(o oracle, a []api.Value) ([]api.Value, api.Errno) { return r(o, []api.Value{a[1], a[0]}) }
}

// back is a row whose second argument, an interval, is turned first.
func back(r row) row {
	return func(o oracle, a []api.Value) ([]api.Value, api.Errno) {
		s := a[1].Span
		return r(o, []api.Value{a[0], {K: 8, Span: api.Span{Inf: -s.Inf, M: -s.M, D: -s.D, U: -s.U}}})
	}
}

func dateAndDays(o oracle, a []api.Value) ([]api.Value, api.Errno) {
	d, e := day.Add(a[0].Date, a[1].Int)
	return ofDate(d), e
}

func dateLessDays(o oracle, a []api.Value) ([]api.Value, api.Errno) {
	if a[1].Int == -1<<63 {
		return nil, api.ErrRange
	}
	d, e := day.Add(a[0].Date, -a[1].Int)
	return ofDate(d), e
}

func dateAndSpan(o oracle, a []api.Value) ([]api.Value, api.Errno) {
	l, e := day.Stamp(a[0].Date, 0)
	if e != api.OK {
		return nil, e
	}
	return stampAndSpan(o, []api.Value{{K: 6, Stamp: l}, a[1]})
}

func stampAndSpan(o oracle, a []api.Value) ([]api.Value, api.Errno) {
	l, e := stamp.Add(a[0].Stamp, a[1].Span)
	return ofStamp(l), e
}

func instantAndSpan(o oracle, a []api.Value) ([]api.Value, api.Errno) {
	t, e := stamp.AddTz(o.env.Zone, a[0].Stamp, a[1].Span)
	return ofInstant(t), e
}

func between(o oracle, a []api.Value) ([]api.Value, api.Errno) {
	s, e := stamp.Sub(a[0].Stamp, a[1].Stamp)
	return ofSpan(s), e
}

func spanTimes(o oracle, a []api.Value) ([]api.Value, api.Errno) {
	s, e := span.Mul(a[0].Span, a[1].Int)
	return ofSpan(s), e
}

func same(o oracle, a []api.Value) ([]api.Value, api.Errno) { return a[:1], api.OK }

func toText(o oracle, a []api.Value) ([]api.Value, api.Errno) {
	s, e := show.Value(a[0], o.env.Zone, o.env.Style)
	return ofText(s), e
}

func toInstant(o oracle, a []api.Value) ([]api.Value, api.Errno) {
	t, _, e := stamp.Instant(o.env.Zone, a[0].Stamp)
	return ofInstant(t), e
}

func toLocal(o oracle, a []api.Value) ([]api.Value, api.Errno) {
	l, e := stamp.Local(o.env.Zone, a[0].Stamp)
	return ofStamp(l), e
}

func startOf(o oracle, a []api.Value) ([]api.Value, api.Errno) {
	l, e := day.Stamp(a[0].Date, 0)
	return ofStamp(l), e
}

func dayOf(o oracle, a []api.Value) ([]api.Value, api.Errno) {
	d, _, e := day.Of(a[0].Stamp)
	return ofDate(d), e
}

// then is two rows, one behind the other.
func then(first, second row) row {
	return func(o oracle, a []api.Value) ([]api.Value, api.Errno) {
		l, e := first(o, a)
		if e != api.OK {
			return nil, e
		}
		return second(o, l)
	}
}

// inZone is a row in the zone that a text names.
func inZone(place int, r row) row {
	return func(o oracle, a []api.Value) ([]api.Value, api.Errno) {
		z, e := o.env.Book.Find(a[place].Text)
		if e != api.OK {
			return nil, e
		}
		o.env.Zone = z
		return r(o, a)
	}
}

// rounded is the nearest whole number, of two the one further from 0.
func rounded(o oracle, a []api.Value) ([]api.Value, api.Errno) {
	unit := scaled(api.Value{Int: 1}, a[0].Scale).Int64()
	n, left := a[0].Int/unit, a[0].Int%unit
	if left >= unit-left && left > 0 {
		n++
	}
	if left < 0 && -left >= unit+left {
		n--
	}
	return ofInt(n), api.OK
}

// fielded: a field that there is not is a text that is none of its kind.
func fielded(e api.Errno) api.Errno {
	if e == api.ErrName {
		return api.ErrLiteral
	}
	return e
}

func truncated(o oracle, a []api.Value) ([]api.Value, api.Errno) {
	l, e := ops.Trunc(a[0].Text, a[1].Stamp)
	return ofStamp(l), fielded(e)
}

func truncatedTz(o oracle, a []api.Value) ([]api.Value, api.Errno) {
	t, e := ops.TruncTz(o.env.Zone, a[0].Text, a[1].Stamp)
	return ofInstant(t), fielded(e)
}

func binned(o oracle, a []api.Value) ([]api.Value, api.Errno) {
	t, e := ops.Bin(a[0].Span, a[1].Stamp, a[2].Stamp)
	return []api.Value{ofLike(a[1].K, t)}, e
}

func extracted(o oracle, a []api.Value) ([]api.Value, api.Errno) {
	d, e := ops.Extract(o.env.Zone, a[0].Text, a[1])
	return ofDec(d.N, d.Scale), fielded(e)
}

func dateOfParts(o oracle, a []api.Value) ([]api.Value, api.Errno) {
	y := a[0].Int
	switch {
	case y == 0:
		return nil, api.ErrRange
	case y < 0:
		y++
	}
	d, e := day.Make(y, a[1].Int, a[2].Int)
	return ofDate(d), e
}

func finite(o oracle, a []api.Value) ([]api.Value, api.Errno) {
	return ofBool(a[0].Date.Inf == 0 && a[0].Stamp.Inf == 0 && a[0].Span.Inf == 0), api.OK
}

func overlap(o oracle, a []api.Value) ([]api.Value, api.Errno) {
	yes, e := ops.Overlaps(a[0].Stamp, a[1].Stamp, a[2].Stamp, a[3].Stamp)
	return ofBool(yes), e
}

func intSeries(o oracle, a []api.Value) ([]api.Value, api.Errno) {
	l, e := series.Ints(a[0].Int, a[1].Int, a[2].Int, o.most)
	var out []api.Value
	for _, n := range l {
		out = append(out, ofInt(n)...)
	}
	return out, e
}

func stampSeries(o oracle, a []api.Value) ([]api.Value, api.Errno) {
	l, e := series.Stamps(a[0].Stamp, a[1].Stamp, a[2].Span, o.most)
	if a[0].K == api.KTz {
		l, e = series.Tz(o.env.Zone, a[0].Stamp, a[1].Stamp, a[2].Span, o.most)
	}
	var out []api.Value
	for _, t := range l {
		out = append(out, ofLike(a[0].K, t))
	}
	return out, e
}

// compared is the order of two of the same kind, or of two numbers.
func compared(a, b api.Value) int {
	switch a.K {
	case api.KBool:
		if a.Bool == b.Bool {
			return 0
		}
		return 1
	case api.KInt, api.KDec:
		return dec.Cmp(dec.Dec{N: a.Int, Scale: a.Scale}, dec.Dec{N: b.Int, Scale: b.Scale})
	case api.KText:
		return strings.Compare(a.Text, b.Text)
	case api.KDate:
		return day.Cmp(a.Date, b.Date)
	case api.KSpan:
		return span.Cmp(a.Span, b.Span)
	}
	return day.CmpStamp(a.Stamp, b.Stamp)
}

// ordered is a row that asks for the order of two.
func ordered(holds func(c int) bool) row {
	return func(o oracle, a []api.Value) ([]api.Value, api.Errno) {
		return ofBool(holds(compared(a[0], a[1]))), api.OK
	}
}

// allRows is a function for each row of the chapter's table.
func allRows() map[string]row {
	sum, less, mul := (*big.Int).Add, (*big.Int).Sub, (*big.Int).Mul
	m := map[string]row{
		"+(int, int)": wholes(sum), "+(numeric, numeric)": places(sum), "+(int, numeric)": places(sum), "+(numeric, int)": places(sum),
		"+(date, int)": dateAndDays, "+(int, date)": swapped(dateAndDays), "+(date, interval)": dateAndSpan, "+(interval, date)": swapped(dateAndSpan),
		"+(timestamp, interval)": stampAndSpan, "+(interval, timestamp)": swapped(stampAndSpan), "+(timestamptz, interval)": instantAndSpan, "+(interval, timestamptz)": swapped(instantAndSpan),
		"+(interval, interval)": func(o oracle, a []api.Value) ([]api.Value, api.Errno) {
			s, e := span.Add(a[0].Span, a[1].Span)
			return ofSpan(s), e
		},
		"-(int, int)": wholes(less), "-(numeric, numeric)": places(less), "-(int, numeric)": places(less), "-(numeric, int)": places(less),
		"-(date, int)": dateLessDays, "-(date, interval)": back(dateAndSpan), "-(timestamp, interval)": back(stampAndSpan), "-(timestamptz, interval)": back(instantAndSpan),
		"-(date, date)": func(o oracle, a []api.Value) ([]api.Value, api.Errno) {
			n, e := day.Sub(a[0].Date, a[1].Date)
			return ofInt(n), e
		},
		"-(timestamp, timestamp)": between, "-(timestamptz, timestamptz)": between,
		"-(interval, interval)": func(o oracle, a []api.Value) ([]api.Value, api.Errno) {
			s, e := span.Sub(a[0].Span, a[1].Span)
			return ofSpan(s), e
		},
		"*(int, int)": wholes(mul), "*(numeric, numeric)": product, "*(int, numeric)": product, "*(numeric, int)": product, "*(interval, int)": spanTimes, "*(int, interval)": swapped(spanTimes),
		"/(int, int)": unlessZero(wholes((*big.Int).Quo)), "%(int, int)": unlessZero(wholes((*big.Int).Rem)),
		"and(bool, bool)":               func(o oracle, a []api.Value) ([]api.Value, api.Errno) { return ofBool(a[0].Bool && a[1].Bool), api.OK },
		"or(bool, bool)":                func(o oracle, a []api.Value) ([]api.Value, api.Errno) { return ofBool(a[0].Bool || a[1].Bool), api.OK },
		"not(bool)":                     func(o oracle, a []api.Value) ([]api.Value, api.Errno) { return ofBool(!a[0].Bool), api.OK },
		"neg(int)":                      func(o oracle, a []api.Value) ([]api.Value, api.Errno) { return wholes(less)(o, []api.Value{{}, a[0]}) },
		"neg(numeric)":                  func(o oracle, a []api.Value) ([]api.Value, api.Errno) { return places(less)(o, []api.Value{{}, a[0]}) },
		"at time zone(timestamp, text)": inZone(1, toInstant), "at time zone(timestamptz, text)": inZone(1, toLocal),
	}
	m["neg(interval)"] = func(o oracle, a []api.Value) ([]api.Value, api.Errno) {
		return ofSpan(api.Span{Inf: -a[0].Span.Inf, M: -a[0].Span.M, D: -a[0].Span.D, U: -a[0].Span.U}), api.OK
	}
	addCasts(m)
	addCalls(m)
	addOrders(m)
	return m
}

func addCasts(m map[string]row) {
	for _, k := range kindNames[1:] {
		m["::text("+k+")"] = toText
		m["::"+k+"("+k+")"] = same
	}
	delete(m, "::bool(bool)")
	m["::date(text)"] = func(o oracle, a []api.Value) ([]api.Value, api.Errno) {
		d, e := read.Date(a[0].Text, o.env.Style)
		return ofDate(d), e
	}
	m["::timestamp(text)"] = func(o oracle, a []api.Value) ([]api.Value, api.Errno) {
		l, e := read.Stamp(a[0].Text, o.env.Style)
		return ofStamp(l), e
	}
	m["::timestamptz(text)"] = func(o oracle, a []api.Value) ([]api.Value, api.Errno) {
		t, e := read.Tz(a[0].Text, o.env)
		return ofInstant(t), e
	}
	m["::interval(text)"] = func(o oracle, a []api.Value) ([]api.Value, api.Errno) {
		s, e := read.Span(a[0].Text)
		return ofSpan(s), e
	}
	m["::int(text)"] = func(o oracle, a []api.Value) ([]api.Value, api.Errno) { return readDecimal(a[0].Text, true) }
	m["::numeric(text)"] = func(o oracle, a []api.Value) ([]api.Value, api.Errno) { return readDecimal(a[0].Text, false) }
	m["::int(numeric)"] = rounded
	m["::numeric(int)"] = func(o oracle, a []api.Value) ([]api.Value, api.Errno) { return ofDec(a[0].Int, 0), api.OK }
	m["::timestamp(date)"] = startOf
	m["::timestamptz(date)"] = then(startOf, toInstant)
	m["::timestamptz(timestamp)"] = toInstant
	m["::timestamp(timestamptz)"] = toLocal
	m["::date(timestamp)"] = dayOf
	m["::date(timestamptz)"] = then(toLocal, dayOf)
}

func addCalls(m map[string]row) {
	m["date_trunc(text, timestamp)"] = truncated
	m["date_trunc(text, timestamptz)"] = truncatedTz
	m["date_trunc(text, timestamptz, text)"] = inZone(2, truncatedTz)
	m["date_bin(interval, timestamp, timestamp)"] = binned
	m["date_bin(interval, timestamptz, timestamptz)"] = binned
	m["age(timestamp, timestamp)"] = func(o oracle, a []api.Value) ([]api.Value, api.Errno) {
		s, e := stamp.Age(a[0].Stamp, a[1].Stamp)
		return ofSpan(s), e
	}
	m["justify(interval)"] = func(o oracle, a []api.Value) ([]api.Value, api.Errno) {
		s, e := span.Justify(a[0].Span)
		return ofSpan(s), e
	}
	m["make_date(int, int, int)"] = dateOfParts
	for _, k := range kindNames[5:] {
		m["extract(text, "+k+")"] = extracted
		m["isfinite("+k+")"] = finite
	}
	for _, k := range []string{"timestamp", "timestamptz"} {
		m["overlaps("+k+", "+k+", "+k+", "+k+")"] = overlap
		m["generate_series("+k+", "+k+", interval)"] = stampSeries
	}
	m["generate_series(int, int, int)"] = intSeries
}

func addOrders(m map[string]row) {
	for op, holds := range map[string]func(c int) bool{
		"=": func(c int) bool { return c == 0 }, "<>": func(c int) bool { return c != 0 }, "<": func(c int) bool { return c < 0 },
		"<=": func(c int) bool { return c <= 0 }, ">": func(c int) bool { return c > 0 }, ">=": func(c int) bool { return c >= 0 },
	} {
		for _, k := range kindNames[2:] {
			m[op+"("+k+", "+k+")"] = ordered(holds)
		}
		m[op+"(int, numeric)"] = ordered(holds)
		m[op+"(numeric, int)"] = ordered(holds)
		if op == "=" || op == "<>" {
			m[op+"(bool, bool)"] = ordered(holds)
		}
	}
}
