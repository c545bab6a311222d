package sess

import (
	"computus/api"
	"computus/dec"
)

// value is one of a kind, as it is reckoned with.
type value interface {
	told() api.Value
}

// The kinds of values.
type (
	truth    bool
	whole    int64
	number   dec.Dec
	phrase   string // a text
	date     api.Date
	local    api.Stamp // what clocks say
	instant  api.Stamp
	interval api.Span
)

func (v truth) told() api.Value    { return api.Value{K: api.KBool, Bool: bool(v)} }
func (v whole) told() api.Value    { return api.Value{K: api.KInt, Int: int64(v)} }
func (v number) told() api.Value   { return api.Value{K: api.KDec, Int: v.N, Scale: v.Scale} }
func (v phrase) told() api.Value   { return api.Value{K: api.KText, Text: string(v)} }
func (v date) told() api.Value     { return api.Value{K: api.KDate, Date: api.Date(v)} }
func (v local) told() api.Value    { return api.Value{K: api.KStamp, Stamp: api.Stamp(v)} }
func (v instant) told() api.Value  { return api.Value{K: api.KTz, Stamp: api.Stamp(v)} }
func (v interval) told() api.Value { return api.Value{K: api.KSpan, Span: api.Span(v)} }

// placed is a number with places, or a whole one without.
func placed(v value) dec.Dec {
	if n, ok := v.(whole); ok {
		return dec.Dec{N: int64(n)}
	}
	return dec.Dec(v.(number))
}

// isNumber: has it places, or is it whole?
func isNumber(v value) bool {
	if _, ok := v.(whole); ok {
		return true
	}
	_, ok := v.(number)
	return ok
}

// stampOf is what clocks say, or an instant, as a stamp.
func stampOf(v value) api.Stamp {
	if l, ok := v.(local); ok {
		return api.Stamp(l)
	}
	return api.Stamp(v.(instant))
}

// likewise is a stamp of the kind of a value, which is one, too.
func likewise(v value, t api.Stamp) value {
	if _, ok := v.(local); ok {
		return local(t)
	}
	return instant(t)
}
