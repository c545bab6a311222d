package sess

import (
	"computus/api"
	"computus/day"
	"computus/dec"
	"computus/read"
	"computus/show"
	"computus/stamp"
)

// cast is a value as one of another kind.
func (r reckoner) cast(to string, v value) (value, api.Errno) {
	if s, ok := v.(phrase); ok {
		return r.read(to, s)
	}
	switch to {
	case "text":
		s, e := show.Value(v.told(), r.env.Zone, r.env.Style)
		return phrase(s), e
	case "date":
		d, e := r.toDate(v)
		return date(d), e
	case "timestamp":
		l, e := r.toLocal(v)
		return local(l), e
	case "timestamptz":
		t, e := r.toInstant(v)
		return instant(t), e
	case "int":
		d, e := dec.Round(placed(v), 0)
		return whole(d.N), e
	case "numeric":
		return number(placed(v)), api.OK
	}
	return v, api.OK
}

// read is the value that a text tells.
func (r reckoner) read(to string, s phrase) (value, api.Errno) {
	written := string(s)
	switch to {
	case "date":
		d, e := read.Date(written, r.env.Style)
		return date(d), e
	case "timestamp":
		l, e := read.Stamp(written, r.env.Style)
		return local(l), e
	case "timestamptz":
		t, e := read.Tz(written, r.env)
		return instant(t), e
	case "interval":
		x, e := read.Span(written)
		return interval(x), e
	case "int":
		n, e := readWhole(written)
		return whole(n), e
	case "numeric":
		d, e := dec.Read(written)
		return number(d), e
	}
	return s, api.OK
}

// readWhole is a number without places.
func readWhole(s string) (int64, api.Errno) {
	d, e := dec.Read(s)
	if e != api.OK {
		return 0, e
	}
	if d.Scale != 0 {
		return 0, api.ErrLiteral
	}
	return d.N, api.OK
}

func (r reckoner) toDate(v value) (api.Date, api.Errno) {
	if d, ok := v.(date); ok {
		return api.Date(d), api.OK
	}
	l, e := r.toLocal(v)
	if e != api.OK {
		return api.Date{}, e
	}
	d, _, e := day.Of(l)
	return d, e
}

// toLocal is what clocks say: of a date at its 0 o'clock, of an instant in the
// session's zone.
func (r reckoner) toLocal(v value) (api.Stamp, api.Errno) {
	if d, ok := v.(date); ok {
		return day.Start(api.Date(d))
	}
	if t, ok := v.(instant); ok {
		return stamp.Local(r.env.Zone, api.Stamp(t))
	}
	return api.Stamp(v.(local)), api.OK
}

// toInstant is when clocks of the session's zone say it.
func (r reckoner) toInstant(v value) (api.Stamp, api.Errno) {
	if t, ok := v.(instant); ok {
		return api.Stamp(t), api.OK
	}
	l, e := r.toLocal(v)
	if e != api.OK {
		return api.Stamp{}, e
	}
	t, _, e := stamp.Instant(r.env.Zone, l)
	return t, e
}
