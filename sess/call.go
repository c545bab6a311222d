package sess

import (
	"computus/api"
	"computus/comp"
	"computus/day"
	"computus/ops"
	"computus/series"
	"computus/span"
	"computus/stamp"
)

// call is what comes of a function.
func (r reckoner) call(name string, l []value) (value, api.Errno) {
	switch name {
	case "date_trunc":
		t, e := r.trunc(l)
		return likewise(l[1], t), literal(e)
	case "date_bin":
		t, e := ops.Bin(api.Span(l[0].(interval)), stampOf(l[1]), stampOf(l[2]))
		return likewise(l[1], t), e
	case "extract":
		d, e := ops.Extract(r.env.Zone, string(l[0].(phrase)), l[1].told())
		return number(d), literal(e)
	case "age":
		s, e := stamp.Age(stampOf(l[0]), stampOf(l[1]))
		return interval(s), e
	case "justify":
		s, e := span.Justify(api.Span(l[0].(interval)))
		return interval(s), e
	case "make_date":
		d, e := makeDate(int64(l[0].(whole)), int64(l[1].(whole)), int64(l[2].(whole)))
		return date(d), e
	case "isfinite":
		return truth(infOf(l[0]) == 0), api.OK
	case "overlaps":
		yes, e := ops.Overlaps(stampOf(l[0]), stampOf(l[1]), stampOf(l[2]), stampOf(l[3]))
		return truth(yes), e
	}
	// kind.Check knows no other.
	return nil, api.ErrType
}

// literal is an error of ops as a session tells it: a field's name is a text
// here.
func literal(e api.Errno) api.Errno {
	if e == api.ErrName {
		return api.ErrLiteral
	}
	return e
}

// trunc cuts a stamp, by the session's clocks, if no others are named.
func (r reckoner) trunc(l []value) (api.Stamp, api.Errno) {
	field := string(l[0].(phrase))
	if t, ok := l[1].(local); ok {
		return ops.Trunc(field, api.Stamp(t))
	}
	z := r.env.Zone
	if len(l) > 2 {
		named, e := r.zone(l[2])
		if e != api.OK {
			return api.Stamp{}, e
		}
		z = named
	}
	return ops.TruncTz(z, field, stampOf(l[1]))
}

// makeDate is a date of a year as people count them: -1 is 1 BC, and none is 0.
func makeDate(y, m, d int64) (api.Date, api.Errno) {
	if y == 0 {
		return api.Date{}, api.ErrRange
	}
	if y < 0 {
		y++
	}
	return day.Make(y, m, d)
}

// infOf: does it lie ahead of all, or behind all?
func infOf(v value) int {
	if d, ok := v.(date); ok {
		return d.Inf
	}
	if s, ok := v.(interval); ok {
		return s.Inf
	}
	return stampOf(v).Inf
}

// zone is the table of a zone, by one of its names.
func (r reckoner) zone(name value) (comp.Table, api.Errno) {
	return r.env.Book.Find(string(name.(phrase)))
}

// series is the values of a list.
func (r reckoner) series(a, b, step value) ([]value, api.Errno) {
	if n, ok := step.(whole); ok {
		return r.wholes(int64(a.(whole)), int64(b.(whole)), int64(n))
	}
	l, e := r.stamps(a, stampOf(b), api.Span(step.(interval)))
	var out []value
	for _, t := range l {
		out = append(out, likewise(a, t))
	}
	return out, e
}

func (r reckoner) wholes(a, b, step int64) ([]value, api.Errno) {
	l, e := series.Ints(a, b, step, r.most)
	var out []value
	for _, n := range l {
		out = append(out, whole(n))
	}
	return out, e
}

// stamps is a list of what clocks say, or of instants.
func (r reckoner) stamps(a value, b api.Stamp, step api.Span) ([]api.Stamp, api.Errno) {
	if l, ok := a.(local); ok {
		return series.Stamps(api.Stamp(l), b, step, r.most)
	}
	return series.Tz(r.env.Zone, stampOf(a), b, step, r.most)
}
