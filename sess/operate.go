package sess

import (
	"cmp"

	"computus/api"
	"computus/day"
	"computus/dec"
	"computus/num"
	"computus/span"
	"computus/stamp"
)

// plus is the sum of two, whichever of them stands first.
func (r reckoner) plus(a, b value) (value, api.Errno) {
	if s, ok := b.(interval); ok {
		return r.later(a, api.Span(s))
	}
	if s, ok := a.(interval); ok {
		return r.later(b, api.Span(s))
	}
	if d, ok := a.(date); ok {
		return daysLater(d, int64(b.(whole)))
	}
	if d, ok := b.(date); ok {
		return daysLater(d, int64(a.(whole)))
	}
	return reckoned(a, b, num.Add, dec.Add)
}

// minus is the difference of two.
func (r reckoner) minus(a, b value) (value, api.Errno) {
	if s, ok := b.(interval); ok {
		back, e := span.Neg(api.Span(s))
		if e != api.OK {
			return nil, e
		}
		return r.later(a, back)
	}
	if d, ok := a.(date); ok {
		return dateLess(d, b)
	}
	if isNumber(a) {
		return reckoned(a, b, num.Sub, dec.Sub)
	}
	s, e := stamp.Sub(stampOf(a), stampOf(b))
	return interval(s), e
}

// times is the product of two.
func times(a, b value) (value, api.Errno) {
	if s, ok := a.(interval); ok {
		return manyTimes(s, int64(b.(whole)))
	}
	if s, ok := b.(interval); ok {
		return manyTimes(s, int64(a.(whole)))
	}
	return reckoned(a, b, num.Mul, dec.Mul)
}

// reckoned is what comes of two numbers: as soon as one has places, by dec.
func reckoned(a, b value, wholes func(a, b int64) (int64, api.Errno), decs func(x, y dec.Dec) (dec.Dec, api.Errno)) (value, api.Errno) {
	if x, ok := a.(whole); ok {
		if y, ok := b.(whole); ok {
			n, e := wholes(int64(x), int64(y))
			return whole(n), e
		}
	}
	d, e := decs(placed(a), placed(b))
	return number(d), e
}

// parted is a by b, cut towards nought, or what is left.
func parted(op string, a, b int64) (value, api.Errno) {
	switch {
	case b == 0:
		return nil, api.ErrZero
	case op == "%":
		return whole(a % b), api.OK
	case b == -1:
		// Of the least number this is no int64.
		n, e := num.Neg(a)
		return whole(n), e
	}
	return whole(a / b), api.OK
}

// turned is a value with the other sign.
func turned(v value) (value, api.Errno) {
	if n, ok := v.(whole); ok {
		back, e := num.Neg(int64(n))
		return whole(back), e
	}
	if s, ok := v.(interval); ok {
		back, e := span.Neg(api.Span(s))
		return interval(back), e
	}
	d, e := dec.Sub(dec.Dec{}, placed(v))
	return number(d), e
}

// later is what lies an interval behind a value.
func (r reckoner) later(v value, s api.Span) (value, api.Errno) {
	if x, ok := v.(interval); ok {
		sum, e := span.Add(api.Span(x), s)
		return interval(sum), e
	}
	if t, ok := v.(instant); ok {
		next, e := stamp.AddTz(r.env.Zone, api.Stamp(t), s)
		return instant(next), e
	}
	l, e := r.toLocal(v)
	if e != api.OK {
		return nil, e
	}
	next, e := stamp.Add(l, s)
	return local(next), e
}

func daysLater(d date, days int64) (value, api.Errno) {
	next, e := day.Add(api.Date(d), days)
	return date(next), e
}

// dateLess is a date less days, or how many days it is behind another one.
func dateLess(d date, v value) (value, api.Errno) {
	if other, ok := v.(date); ok {
		days, e := day.Sub(api.Date(d), api.Date(other))
		return whole(days), e
	}
	back, e := num.Neg(int64(v.(whole)))
	if e != api.OK {
		return nil, e
	}
	return daysLater(d, back)
}

func manyTimes(s interval, n int64) (value, api.Errno) {
	product, e := span.Mul(api.Span(s), n)
	return interval(product), e
}

// at is what clocks of a zone say of an instant, or when they say something.
func (r reckoner) at(v, zone value) (value, api.Errno) {
	z, e := r.zone(zone)
	if e != api.OK {
		return nil, e
	}
	if l, ok := v.(local); ok {
		t, _, e := stamp.Instant(z, api.Stamp(l))
		return instant(t), e
	}
	l, e := stamp.Local(z, stampOf(v))
	return local(l), e
}

// orderOf is -1, 0, 1: is a ahead of b, the same, behind?
func orderOf(a, b value) int {
	if x, ok := a.(phrase); ok {
		return cmp.Compare(x, b.(phrase))
	}
	if d, ok := a.(date); ok {
		return day.Cmp(api.Date(d), api.Date(b.(date)))
	}
	if s, ok := a.(interval); ok {
		return span.Cmp(api.Span(s), api.Span(b.(interval)))
	}
	if isNumber(a) {
		return dec.Cmp(placed(a), placed(b))
	}
	if x, ok := a.(truth); ok {
		return orderOfTruths(x, b.(truth))
	}
	return day.CmpStamp(stampOf(a), stampOf(b))
}

// orderOfTruths: they are the same or not, but neither is ahead of the other
// in anything that kind.Check lets be asked.
func orderOfTruths(a, b truth) int {
	if a == b {
		return 0
	}
	return 1
}

// holds: does what is said hold of two in that order?
func holds(op string, c int) bool {
	switch op {
	case "=":
		return c == 0
	case "<>":
		return c != 0
	case "<":
		return c < 0
	case "<=":
		return c <= 0
	case ">":
		return c > 0
	}
	return c >= 0
}
