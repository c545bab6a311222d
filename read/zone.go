package read

import (
	"strings"

	"computus/api"
	"computus/clock"
	"computus/comp"
	"computus/day"
	"computus/num"
	"computus/stamp"
	"computus/word"
	"computus/zone"
)

const (
	utc          = "z"
	mostOff      = 57600     // either way, of any clocks
	epochSeconds = 946684800 // from January 1, 1970 to January 1, 2000
	halfHour     = 1800
)

// shorts is the names that everybody knows, and half hours ahead of UTC.
var shorts = [...]struct {
	name   string
	halves int64
}{
	{"UTC", 0}, {"GMT", 0}, {"EST", -10}, {"EDT", -8}, {"CST", -12}, {"CDT", -10}, {"MST", -14}, {"MDT", -12}, {"PST", -16},
	{"PDT", -14}, {"CET", 2}, {"CEST", 4}, {"BST", 2}, {"EET", 4}, {"EEST", 6}, {"MSK", 6}, {"IST", 11}, {"JST", 18},
}

// Abbr is how many seconds ahead of UTC clocks are, of a short name that everybody knows.
func Abbr(s string) (int64, bool) {
	for _, x := range shorts {
		if word.Same(x.name, s) {
			return x.halves * halfHour, true
		}
	}
	return 0, false
}

// Zone is the instant at which clocks say l, of what stands behind a time.
func Zone(s string, env Env, l api.Stamp) (api.Stamp, api.Errno) {
	if !zone.Right(env.Zone) || !day.RightStamp(l) {
		return api.Stamp{}, api.ErrArg
	}
	if l.Inf != 0 {
		return l, api.OK
	}
	if strings.HasPrefix(s, "+") || strings.HasPrefix(s, "-") {
		sec, e := clock.ReadOffset(s)
		if e != api.OK {
			return api.Stamp{}, e
		}
		return less(l, sec)
	}
	if word.Same(s, utc) {
		return l, api.OK
	}
	return named(s, env, l)
}

// named is the instant at which clocks say l, in a zone that a name tells: what
// clocks here are called then, what everybody calls some, or a name of the book.
func named(s string, env Env, l api.Stamp) (api.Stamp, api.Errno) {
	ways, e := standing(env.Zone, l)
	if e != api.OK {
		return api.Stamp{}, e
	}
	for _, x := range ways {
		if word.Same(x.Abbr, s) {
			return less(l, x.Off)
		}
	}
	if sec, ok := Abbr(s); ok {
		return less(l, sec)
	}
	z, e := env.Book.Find(s)
	if e != api.OK {
		return api.Stamp{}, e
	}
	t, _, e := stamp.Instant(z, l)
	return t, e
}

// standing is how clocks stand at each instant at which they say l, in order.
func standing(z comp.Table, l api.Stamp) ([]api.Tran, api.Errno) {
	sec, _ := num.Div(l.U, api.Micro)
	local := sec + epochSeconds
	from, to := local-mostOff, local+mostOff
	changes, e := zone.Changes(z, from, to)
	if e != api.OK {
		return nil, e
	}
	var ways []api.Tran
	// Clocks stand in one way from each of these up to the next one.
	starts := append([]int64{from}, changes...)
	for i, start := range starts {
		x, e := zone.At(z, start)
		if e != api.OK {
			return nil, e
		}
		at := local - x.Off
		if at >= start && (i+1 == len(starts) || at < starts[i+1]) {
			ways = append(ways, x)
		}
	}
	return ways, api.OK
}

// less is the stamp so many seconds ahead of another one, if it can be.
func less(l api.Stamp, sec int64) (api.Stamp, api.Errno) {
	u, e := num.Sub(l.U, sec*api.Micro)
	if e != api.OK || !day.RightStamp(api.Stamp{U: u}) {
		return api.Stamp{}, api.ErrRange
	}
	return api.Stamp{U: u}, api.OK
}
