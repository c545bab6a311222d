package expr_test

import (
	"regexp"
	"slices"
	"strings"
	"unicode/utf8"

	"computus/api"
)

// What a text is, told once more and in another way: its tokens by a pattern,
// and whether the grammar derives them by Earley's sets.

// pattern is the tokens. A text runs as far as its quotes go in pairs, so that
// one with an odd number of them does not end.
var pattern = regexp.MustCompile(`'(?:[^']|'')*'?|<=|>=|<>|::|[0-9]+\.[0-9]+|[0-9]+|[a-zA-Z_\x{80}-\x{10FFFF}][0-9a-zA-Z_\x{80}-\x{10FFFF}]*|[^ \t\n\r]`)

// grammar is the chapter's, what is in { } as a line that begins with itself.
const grammar = `
expr and
expr expr or and
and not
and and and! not
not not! not
not cmp
cmp sum
cmp sum = sum
cmp sum <> sum
cmp sum < sum
cmp sum <= sum
cmp sum > sum
cmp sum >= sum
sum term
sum sum + term
sum sum - term
term unary
term term * unary
term term / unary
term term % unary
unary - unary
unary zone
zone cast
zone zone at time zone! cast
cast prim
cast cast :: name
prim number
prim text
prim true
prim false
prim type text
prim name ( )
prim name ( list )
prim ( expr )
list expr
list list , expr
`

// line is what one line of the grammar says.
type line struct {
	left  string
	right []string
}

func lines() []line {
	var l []line
	for _, s := range strings.Split(strings.TrimSpace(grammar), "\n") {
		f := strings.Fields(s)
		l = append(l, line{f[0], f[1:]})
	}
	return l
}

// classes is the words of the grammar that a token may stand for.
func classes(t string) []string {
	small := strings.ToLower(t)
	switch c := t[0]; {
	case c == '\'':
		return []string{"text"}
	case c >= '0' && c <= '9':
		return []string{"number"}
	case slices.Contains([]string{"and", "not", "zone"}, small):
		return []string{small + "!"}
	case slices.Contains([]string{"true", "false", "or", "at", "time"}, small):
		return []string{small}
	case slices.Contains([]string{"date", "timestamp", "timestamptz", "interval"}, small):
		return []string{"type", "name"}
	case c == '_' || c >= 'a' && c <= 'z' || c >= 'A' && c <= 'Z' || c >= utf8.RuneSelf:
		return []string{"name"}
	}
	return []string{t}
}

// item is a line of the grammar, how much of it is there, and from where on.
type item struct {
	line, dot, from int
}

// firstWrong is the number of the first token that can not stand where it does;
// that of the end, if there must be more; -1, if the grammar derives them.
func firstWrong(tokens []string) int {
	all := lines()
	heads := map[string][]int{}
	for i, l := range all {
		heads[l.left] = append(heads[l.left], i)
	}
	sets := make([][]item, len(tokens)+1)
	add := func(k int, x item) {
		if !slices.Contains(sets[k], x) {
			sets[k] = append(sets[k], x)
		}
	}
	for _, i := range heads["expr"] {
		add(0, item{i, 0, 0})
	}
	for k := range sets {
		if len(sets[k]) == 0 {
			return k - 1
		}
		for j := 0; j < len(sets[k]); j++ {
			x := sets[k][j]
			l := all[x.line]
			switch {
			case x.dot == len(l.right):
				for _, y := range sets[x.from] {
					if r := all[y.line].right; y.dot < len(r) && r[y.dot] == l.left {
						add(k, item{y.line, y.dot + 1, y.from})
					}
				}
			case heads[l.right[x.dot]] != nil:
				for _, i := range heads[l.right[x.dot]] {
					add(k, item{i, 0, k})
				}
			case k < len(tokens) && slices.Contains(classes(tokens[k]), l.right[x.dot]):
				add(k+1, item{x.line, x.dot + 1, x.from})
			}
		}
	}
	for _, x := range sets[len(tokens)] {
		if l := all[x.line]; l.left == "expr" && x.from == 0 && x.dot == len(l.right) {
			return -1
		}
	}
	return len(tokens)
}

// wrongByte is the place of the first byte that no text may have; -1: none.
func wrongByte(s string) int {
	for i, c := range s {
		_, width := utf8.DecodeRuneInString(s[i:])
		if c == utf8.RuneError && width == 1 || c < 32 && !strings.ContainsRune(" \t\n\r", c) || c == 127 {
			return i
		}
	}
	return -1
}

// judge is the error of a text and its place, as far as no part is too deep.
func judge(s string) (int, api.Errno) {
	if len(s) > 2048 {
		return 0, api.ErrSize
	}
	if i := wrongByte(s); i >= 0 {
		return i, api.ErrForm
	}
	var tokens []string
	var places []int
	for _, p := range pattern.FindAllStringIndex(s, -1) {
		t := s[p[0]:p[1]]
		if t[0] == '\'' && strings.Count(t, "'")%2 == 1 {
			return p[0], api.ErrSyntax
		}
		tokens, places = append(tokens, t), append(places, p[0])
	}
	if i := firstWrong(tokens); i >= 0 {
		return append(places, len(s))[i], api.ErrSyntax
	}
	return 0, api.OK
}
