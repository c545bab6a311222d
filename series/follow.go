package series

import (
	"computus/api"
	"computus/comp"
	"computus/day"
	"computus/span"
	"computus/stamp"
)

// plain is an interval that leads on from what clocks say.
type plain api.Span

func (s plain) next(t api.Stamp) (api.Stamp, api.Errno) {
	return stamp.Add(t, api.Span(s))
}

// zoned is an interval that leads on from an instant, by the clocks of a zone.
type zoned struct {
	clocks comp.Table
	step   api.Span
}

func (s zoned) next(t api.Stamp) (api.Stamp, api.Errno) {
	return stamp.AddTz(s.clocks, t, s.step)
}

// course is a series as far as it has come: where it stands, where it ends, and
// which way it goes (1: on, -1: back).
type course struct {
	at, end api.Stamp
	way     int
}

// isBeyond: does it stand where no one of it is any more?
func (c course) isBeyond() bool {
	return day.CmpStamp(c.at, c.end) == c.way
}

// leadsTo: is what follows where the course goes?
func (c course) leadsTo(what course) bool {
	return day.CmpStamp(what.at, c.at) == c.way
}

// follow is the stamps from a to b, each one what next tells of the one ahead.
func follow(a, b api.Stamp, step api.Span, most int, next func(api.Stamp) (api.Stamp, api.Errno)) ([]api.Stamp, api.Errno) {
	if a.Inf != 0 || step.Inf != 0 {
		return nil, api.ErrRange
	}
	now := course{a, b, span.Sign(step)}
	if now.way == 0 {
		return nil, api.ErrZero
	}
	var l []api.Stamp
	var e api.Errno
	for ahead := (course{}); !now.isBeyond(); {
		// One too many is told as such even where it leads the wrong way.
		if len(l) == most {
			return nil, api.ErrRows
		}
		if ahead != (course{}) && !ahead.leadsTo(now) {
			return nil, api.ErrZero
		}
		l = append(l, now.at)
		ahead = now
		if now.at, e = next(now.at); e != api.OK {
			return nil, e
		}
	}
	return l, api.OK
}
