package read

import (
	"slices"
	"strings"

	"computus/api"
	"computus/num"
	"computus/word"
)

// mark is the letter behind a number, and what it counts.
type mark struct {
	letter string
	unit   unit
}

// byISO reads one word of numbers with letters behind them.
type byISO struct{}

func (byISO) read(l list[string]) any {
	w, _ := l.alone()
	text, ok := strings.CutPrefix(w, "p")
	if !ok {
		return nil
	}
	first, second, timed := strings.Cut(text, "t")
	ahead, isDays := marked(first, list[mark]{{"y", years}, {"m", months}, {"w", weeks}, {"d", days}})
	behind, isTime := marked(second, list[mark]{{"h", hours}, {"m", minutes}, {"s", seconds}})
	if !isDays || !isTime || timed && len(behind) == 0 || len(ahead)+len(behind) == 0 {
		return nil
	}
	return interval{amounts: append(ahead, behind...)}
}

// marked is numbers with some of these letters behind them, in their order.
func marked(s string, marks list[mark]) (list[amount], bool) {
	var amounts list[amount]
	for s != "" {
		x, rest, ok := cutNumber(s)
		i := slices.IndexFunc(marks, func(m mark) bool { return strings.HasPrefix(rest, m.letter) })
		if !ok || i < 0 || x.fraction != "" && marks[i].unit != seconds {
			return nil, false
		}
		amounts = append(amounts, x.amounts(marks[i].unit)...)
		s = rest[len(marks[i].letter):]
		_, marks = marks.part(i + 1)
	}
	return amounts, true
}

// decimal is a number as it is written: its sign, and the digits ahead of a
// point and behind it.
type decimal struct {
	sign            int64
	whole, fraction string
}

// cutNumber is the number with which a text begins, and what stands behind it.
func cutNumber(s string) (decimal, string, bool) {
	x := decimal{sign: 1}
	if text, below := strings.CutPrefix(s, "-"); below {
		x.sign, s = -1, text
	}
	x.whole, s = cutDigits(s)
	if x.whole == "" {
		return decimal{}, "", false
	}
	if text, point := strings.CutPrefix(s, "."); point {
		x.fraction, s = cutDigits(text)
		if x.fraction == "" || len(x.fraction) > mostFraction {
			return decimal{}, "", false
		}
	}
	return x, s, true
}

// amounts is what a number tells of a unit: what stands ahead of the point
// first.
func (x decimal) amounts(u unit) list[amount] {
	n, e := x.number()
	l := list[amount]{{n, e, u}}
	if x.fraction == "" {
		return l
	}
	us, _ := word.Number((x.fraction + "000000")[:mostFraction])
	return append(l, amount{n: x.sign * us, unit: micros})
}

// number is what stands ahead of the point, with its sign: here that is of the
// number, and the least int64 is one, too.
func (x decimal) number() (int64, api.Errno) {
	n := int64(0)
	for _, c := range x.whole {
		tens, e := num.Mul(n, 10)
		if e != api.OK {
			return 0, e
		}
		if n, e = num.Add(tens, x.sign*int64(c-'0')); e != api.OK {
			return 0, e
		}
	}
	return n, api.OK
}
