package ops

import (
	"slices"

	"computus/api"
	"computus/word"
)

// field is what is asked of a value.
type field int

// The fields, in the order of their names; up to millennia they are lengths of
// time, at which a stamp can be cut.
const (
	microseconds field = iota
	milliseconds
	seconds
	minutes
	hours
	days
	weeks
	months
	quarters
	years
	decades
	centuries
	millennia
	dow
	isodow
	doy
	isoyear
	epoch
	timezone
)

// named is the field with a name, of those up to the last one that may be asked.
func named(name string, last field) (field, bool) {
	all := []string{"microseconds", "milliseconds", "second", "minute", "hour", "day", "week", "month", "quarter", "year", "decade",
		"century", "millennium", "dow", "isodow", "doy", "isoyear", "epoch", "timezone"}
	seen := int(last) + 1
	i := word.Known(name, all[:seen:seen])
	return field(max(i, 0)), i >= 0
}

// goesWith: has a kind of value such a field?
func (f field) goesWith(kind int) bool {
	switch f {
	case timezone:
		return isOf(kind, api.KTz)
	case dow, isodow, doy, isoyear, weeks:
		return isOf(kind, api.KDate, api.KStamp, api.KTz)
	}
	return isOf(kind, api.KDate, api.KStamp, api.KTz, api.KSpan)
}

// isOf: is it one of these kinds?
func isOf(kind int, kinds ...int) bool {
	return slices.Contains(kinds, kind)
}
