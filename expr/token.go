package expr

import (
	"strings"

	"computus/api"
	"computus/word"
)

// The kinds of tokens.
const (
	end    = iota // of the text
	digits        // of a whole number
	point         // digits with a point among them
	quoted        // what stands between quotes
	name          // in small letters
	sign
)

const quote = "'"

// token is what a piece of a text says, wherever it stands.
type token struct {
	kind int
	text string
}

// spot is a token at its place.
type spot struct {
	token
	at int
}

// tokens is those of a text, and its end behind them; or the place of what is
// no token.
func tokens(s string) ([]spot, int, api.Errno) {
	parts, at, e := word.Split(s)
	if e != api.OK {
		return nil, at, e
	}
	var l []spot
	for len(parts) > 0 {
		at := parts[0].At
		kind, many := first(parts)
		if many == 0 {
			return nil, at, api.ErrSyntax
		}
		last := parts[many-1]
		l = append(l, spot{token{kind, said(kind, s[at:behind(last)])}, at})
		parts = parts[many:]
	}
	return append(l, spot{at: len(s)}), 0, api.OK
}

// first is the kind of the first token, and how many parts are it: 0 of a text
// that does not end.
func first(l []word.Part) (int, int) {
	switch {
	case l[0].Text == quote:
		return quoted, toQuote(l)
	case l[0].Kind == word.Letters:
		return name, toSign(l)
	case l[0].Kind == word.Sign && isPair(l):
		return sign, 2
	case l[0].Kind == word.Sign:
		return sign, 1
	case isBeside(l, 1) && l[1].Text == "." && isBeside(l, 2) && l[2].Kind == word.Digits:
		return point, 3
	}
	return digits, 1
}

// said is a token's text of how it is written.
func said(kind int, written string) string {
	switch kind {
	case name:
		return word.Lower(written)
	case quoted:
		return strings.ReplaceAll(written[1:len(written)-1], quote+quote, quote)
	}
	return written
}

// toQuote is how many parts there are up to the quote that ends a text, which
// begins with the first one; 0, if none does.
func toQuote(l []word.Part) int {
	for i := 1; i < len(l); i++ {
		if l[i].Text != quote {
			continue
		}
		if !isBeside(l, i+1) || l[i+1].Text != quote {
			return i + 1
		}
		// Of two quotes the second one neither ends the text nor begins a pair.
		i++
	}
	return 0
}

// toSign is how many parts there are up to a sign or a blank.
func toSign(l []word.Part) int {
	many := 1
	for isBeside(l, many) && l[many].Kind != word.Sign {
		many++
	}
	return many
}

// isPair: are the first two parts signs that are one token together?
func isPair(l []word.Part) bool {
	if !isBeside(l, 1) {
		return false
	}
	switch l[0].Text + l[1].Text {
	case "<=", ">=", "<>", "::":
		return true
	}
	return false
}

// isBeside: is there an i-th part, and nothing between it and the one ahead?
func isBeside(l []word.Part, i int) bool {
	return i < len(l) && l[i].At == behind(l[i-1])
}

// behind is the place that follows a part.
func behind(p word.Part) int {
	return p.At + len(p.Text)
}
