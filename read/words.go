package read

import (
	"strings"

	"computus/api"
	"computus/word"
)

const allDigits = "0123456789"

// list is words of one kind, in order.
type list[W comparable] []W

// part is the first words, so many or as there are, and those behind them.
func (l list[W]) part(n int) (list[W], list[W]) {
	n = min(n, len(l))
	return l[:n], l[n:]
}

// alone is the word, if there is no other.
func (l list[W]) alone() (W, bool) {
	var none W
	if len(l) != 1 {
		return none, false
	}
	return l[0], true
}

// cutLast is the words ahead of the last one, if that is w; else all.
func (l list[W]) cutLast(w W) (list[W], bool) {
	last := len(l) - 1
	if last < 0 || l[last] != w {
		return l, false
	}
	return l[:last], true
}

// reader reads words of one form. What came of it is nil, if they are not of
// that form.
type reader interface {
	read(l list[string]) any
}

// firstOf is what came of the first form that words are of.
func firstOf(l list[string], forms ...reader) any {
	for _, f := range forms {
		if told := f.read(l); told != nil {
			return told
		}
	}
	return nil
}

// end is what lies ahead of all (-1), or behind all (1).
type end int

// ends reads the names of both.
type ends struct{}

func (ends) read(l list[string]) any {
	switch w, _ := l.alone(); w {
	case "infinity":
		return end(1)
	case "-infinity":
		return end(-1)
	}
	return nil
}

// wordsOf is the words of a text, in small letters, as no form asks for great
// ones; none of a text that is too long to be of any form.
func wordsOf(s string) list[string] {
	if len(s) > api.MaxExpr {
		return nil
	}
	return strings.FieldsFunc(word.Lower(s), isBlank)
}

func isBlank(c rune) bool {
	return c == ' ' || c == '\t' || c == '\n' || c == '\r'
}

func isDigit(c byte) bool {
	return c >= '0' && c <= '9'
}

// cutDigits is the digits with which a text begins, and what stands behind them.
func cutDigits(s string) (string, string) {
	rest := strings.TrimLeft(s, allDigits)
	return s[:len(s)-len(rest)], rest
}

// digits is what a text tells that is digits alone, from so many to so many.
func digits(s string, least, most int) (int64, bool) {
	if len(s) < least || len(s) > most {
		return 0, false
	}
	n, e := word.Number(s)
	return n, e == api.OK
}
