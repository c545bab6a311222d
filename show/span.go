package show

import (
	"strconv"

	"computus/api"
	"computus/clock"
)

const (
	yearMonths  = 12
	sixty       = 60 // seconds of a minute, and minutes of an hour
	minuteMicro = sixty * api.Micro
	hourMicro   = sixty * minuteMicro
)

// count is a number of an interval, and what it counts.
type count struct {
	n    int64
	unit string
}

// inWords is an interval's numbers with their units, and its time.
func inWords(x api.Span) string {
	var words []string
	last := int64(0)
	for _, c := range [...]count{{x.M / yearMonths, "year"}, {x.M % yearMonths, "mon"}, {x.D, "day"}} {
		if c.n == 0 {
			continue
		}
		words = append(words, joined("", turn(last, c.n), digits(c.n), " ", c.unit, many(c.n)))
		last = c.n
	}
	if x.U != 0 || len(words) == 0 {
		words = append(words, joined("", turn(last, x.U), clock.Long(x.U)))
	}
	return joined(" ", words...)
}

// turn is the sign of a number that leads on again, where the last one led back.
func turn(last, n int64) string {
	if last < 0 && n > 0 {
		return "+"
	}
	return ""
}

// many is what stands behind a unit, but of one.
func many(n int64) string {
	if n == 1 {
		return ""
	}
	return "s"
}

// bySQL is years and months, days, and a time, each with a sign.
func bySQL(x api.Span) string {
	m, d, u := size(x.M), size(x.D), size(x.U)
	time := joined(":", digits(u/hourMicro), clock.Two(u/minuteMicro%sixty), clock.Two(u/api.Micro%sixty))
	return joined(" ",
		joined("", sign(x.M), digits(m/yearMonths), "-", digits(m%yearMonths)),
		joined("", sign(x.D), digits(d)),
		joined("", sign(x.U), time, clock.Fraction(u%api.Micro)))
}

func sign(n int64) string {
	if n < 0 {
		return "-"
	}
	return "+"
}

// byISO is an interval's numbers with letters behind them.
func byISO(x api.Span) string {
	if x == (api.Span{}) {
		return "PT0S"
	}
	text := joined("", "P", marked(x.M/yearMonths, "Y"), marked(x.M%yearMonths, "M"), marked(x.D, "D"))
	if x.U == 0 {
		return text
	}
	h, m, us := x.U/hourMicro, x.U/minuteMicro%sixty, x.U%minuteMicro
	return joined("", text, "T", marked(h, "H"), marked(m, "M"), markedSeconds(us))
}

// marked is a number with a letter behind it, unless it is nought.
func marked(n int64, letter string) string {
	if n == 0 {
		return ""
	}
	return joined("", digits(n), letter)
}

// markedSeconds is microseconds as seconds. Their sign stands for itself, as
// that of whole seconds is lost where there are none.
func markedSeconds(us int64) string {
	if us == 0 {
		return ""
	}
	below := ""
	if us < 0 {
		below = "-"
	}
	us = size(us)
	return joined("", below, digits(us/api.Micro), clock.Fraction(us%api.Micro), "S")
}

// size is how far a part of an interval is from nought; none is the least int64.
func size(n int64) int64 {
	return max(n, -n)
}

func digits(n int64) string {
	return strconv.FormatInt(n, 10)
}
