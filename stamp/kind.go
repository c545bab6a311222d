package stamp

import "computus/api"

// kind is where a stamp or an interval lies, as far as its Inf says: at one end
// of all, or between both.
type kind interface {
	inf() int
	turned() kind
}

// end is ahead of all (-1), or behind all (1).
type end int

// between is at neither end.
type between struct{}

func (x end) inf() int { return int(x) }

func (x end) turned() kind { return -x }

func (x between) inf() int { return 0 }

func (x between) turned() kind { return x }

func kindOf(inf int) kind {
	if inf == 0 {
		return between{}
	}
	return end(inf)
}

// together is the Inf of two that are taken together; nothing lies at both ends.
func together(a, b kind) (int, api.Errno) {
	switch x := a.(type) {
	case end:
		if b == x.turned() {
			return 0, api.ErrRange
		}
		return x.inf(), api.OK
	default:
		return b.inf(), api.OK
	}
}
