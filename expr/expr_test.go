package expr_test

import (
	"math/rand"
	"strings"
	"testing"

	"computus/api"
	"computus/expr"
	"computus/word"
)

const (
	mostBytes = 2048
	mostDeep  = 20
)

// same: are both the same, places left out if they are not asked?
func same(a, b expr.Node, places bool) bool {
	if a.Kind != b.Kind || a.Text != b.Text || len(a.Kids) != len(b.Kids) || places && a.At != b.At {
		return false
	}
	for i := range a.Kids {
		if !same(a.Kids[i], b.Kids[i], places) {
			return false
		}
	}
	return true
}

// text is an expression's, as P22.2 says it.
func text(n expr.Node) string {
	var kids []string
	for _, kid := range n.Kids {
		kids = append(kids, text(kid))
	}
	switch n.Kind {
	case expr.Text:
		return "'" + strings.ReplaceAll(n.Text, "'", "''") + "'"
	case expr.Lit:
		return n.Text + " " + kids[0]
	case expr.Neg:
		return "(- " + kids[0] + ")"
	case expr.Not:
		return "(not " + kids[0] + ")"
	case expr.Op:
		return "(" + kids[0] + " " + n.Text + " " + kids[1] + ")"
	case expr.Call:
		return n.Text + "(" + strings.Join(kids, ", ") + ")"
	case expr.Cast:
		return "(" + kids[0] + "::" + n.Text + ")"
	}
	return n.Text
}

func steps(n expr.Node) int {
	many := 1
	for _, kid := range n.Kids {
		if n.Kind != expr.Lit {
			many += steps(kid)
		}
	}
	return many
}

// The kinds have the chapter's numbers.
func TestKinds(t *testing.T) {
	for i, k := range []int{expr.Int, expr.Dec, expr.Text, expr.Bool, expr.Lit, expr.Neg, expr.Not, expr.Op, expr.Call, expr.Cast} {
		if k != i+1 {
			t.Error("kind", i+1, k)
		}
	}
}

// P22.1, P22.2: ordinary expressions.
func TestParse(t *testing.T) {
	for s, want := range map[string]string{
		"1":                                    "1",
		" \t\r\n007 \n":                        "007",
		"1.50":                                 "1.50",
		"''":                                   "''",
		"''''":                                 "''''",
		"'a''b'":                               "'a''b'",
		"'a'''":                                "'a'''",
		"'1 + (2'":                             "'1 + (2'",
		"' a\tb '":                             "' a\tb '",
		"TRUE":                                 "true",
		"False":                                "false",
		"DATE 'x'":                             "date 'x'",
		"date'x'":                              "date 'x'",
		"interval ''":                          "interval ''",
		"timestamptz 'It''S'":                  "timestamptz 'It''S'",
		"timestamp 'x'::date":                  "(timestamp 'x'::date)",
		"date(1)":                              "date(1)",
		"Date ( 'x' )":                         "date('x')",
		"f()":                                  "f()",
		"F ( )":                                "f()",
		"a1(1)":                                "a1(1)",
		"a1b2(1)":                              "a1b2(1)",
		"ÄÖ(1)":                                "ÄÖ(1)",
		"f(1,2 , 3)":                           "f(1, 2, 3)",
		"f((1), g(2, h()))":                    "f(1, g(2, h()))",
		"1 + 2 * x(3)::date":                   "(1 + (2 * (x(3)::date)))",
		"1 * 2 + 3":                            "((1 * 2) + 3)",
		"1 - 2 - 3":                            "((1 - 2) - 3)",
		"1-(2-3)":                              "(1 - (2 - 3))",
		"8 / 4 % 3 * 2":                        "(((8 / 4) % 3) * 2)",
		"1--1":                                 "(1 - (- 1))",
		"---1":                                 "(- (- (- 1)))",
		"-1 * -2":                              "((- 1) * (- 2))",
		"- 1 at time zone 'x'":                 "(- (1 at time zone 'x'))",
		"- 1::int":                             "(- (1::int))",
		"1::int::text":                         "((1::int)::text)",
		"1::INT":                               "(1::int)",
		"1 :: date":                            "(1::date)",
		"1::a1":                                "(1::a1)",
		"1 at time zone 2 At Time Zone 3":      "((1 at time zone 2) at time zone 3)",
		"1 at time zone 2::text":               "(1 at time zone (2::text))",
		"1 + 2 at time zone 3":                 "(1 + (2 at time zone 3))",
		"1or 2":                                "(1 or 2)",
		"1.5or 2":                              "(1.5 or 2)",
		"1 or 2 or 3":                          "((1 or 2) or 3)",
		"1 and 2 or 3 and 4":                   "((1 and 2) or (3 and 4))",
		"1 or 2 and 3":                         "(1 or (2 and 3))",
		"not 1 and 2":                          "((not 1) and 2)",
		"not not 1 = 2":                        "(not (not (1 = 2)))",
		"1 + 1 < 2 * 3":                        "((1 + 1) < (2 * 3))",
		"1<=2":                                 "(1 <= 2)",
		"1>=2":                                 "(1 >= 2)",
		"1<>2":                                 "(1 <> 2)",
		"1<2 and 2>1":                          "((1 < 2) and (2 > 1))",
		"(1 < 2) < 3":                          "((1 < 2) < 3)",
		"(((1)))":                              "1",
		"(date 'x')":                           "date 'x'",
		"(not true)::text":                     "((not true)::text)",
		"date '2024-01-01' at time zone 'UTC'": "(date '2024-01-01' at time zone 'UTC')",
	} {
		n, at, e := expr.Parse(s)
		if e != api.OK || at != 0 || expr.String(n) != want || text(n) != want {
			t.Errorf("Parse(%q) = %q, %d, %d, want %q", s, expr.String(n), at, e, want)
		}
	}
}

// P22.1: the node itself, with all its places and nothing else.
func TestNodes(t *testing.T) {
	leaf := func(kind int, s string, at int) expr.Node { return expr.Node{Kind: kind, Text: s, At: at} }
	for s, want := range map[string]expr.Node{
		" 12":                leaf(expr.Int, "12", 1),
		"(1.5)":              leaf(expr.Dec, "1.5", 1),
		"( ( TRUE ) )":       leaf(expr.Bool, "true", 4),
		" 'a''B'":            leaf(expr.Text, "a'B", 1),
		" Date  'X' ":        {Kind: expr.Lit, Text: "date", At: 1, Kids: []expr.Node{leaf(expr.Text, "X", 7)}},
		" - 5":               {Kind: expr.Neg, At: 1, Kids: []expr.Node{leaf(expr.Int, "5", 3)}},
		"(NOT 5)":            {Kind: expr.Not, At: 1, Kids: []expr.Node{leaf(expr.Int, "5", 5)}},
		"ä() <> 1":           {Kind: expr.Op, Text: "<>", At: 5, Kids: []expr.Node{leaf(expr.Call, "ä", 0), leaf(expr.Int, "1", 8)}},
		"1 OR 2":             {Kind: expr.Op, Text: "or", At: 2, Kids: []expr.Node{leaf(expr.Int, "1", 0), leaf(expr.Int, "2", 5)}},
		"1 And 2":            {Kind: expr.Op, Text: "and", At: 2, Kids: []expr.Node{leaf(expr.Int, "1", 0), leaf(expr.Int, "2", 6)}},
		"1 At\nTIME  Zone 2": {Kind: expr.Op, Text: "at time zone", At: 2, Kids: []expr.Node{leaf(expr.Int, "1", 0), leaf(expr.Int, "2", 16)}},
		"(1) :: DATE":        {Kind: expr.Cast, Text: "date", At: 4, Kids: []expr.Node{leaf(expr.Int, "1", 1)}},
		" Fx1 (1, 2)":        {Kind: expr.Call, Text: "fx1", At: 1, Kids: []expr.Node{leaf(expr.Int, "1", 6), leaf(expr.Int, "2", 9)}},
	} {
		n, at, e := expr.Parse(s)
		if e != api.OK || at != 0 || !same(n, want, true) {
			t.Errorf("Parse(%q) = %v, %d, %d, want %v", s, n, at, e, want)
		}
	}
}

// P22.1: what is no expression, and where.
func TestNoExpression(t *testing.T) {
	for s, want := range map[string]int{
		"": 0, "  ": 2, "1 +": 3, "1 + ": 4, "(1": 2, "(1 ": 3, "1)": 1, "()": 1, ")": 0, "1 2": 2, "1 'a'": 2, "'a' 'b'": 4,
		"f": 1, "f ": 2, "f 1": 2, "f)": 1, "f(": 2, "f(,)": 2, "f(1,)": 4, "f(1 2)": 4, "f(1": 3, "f(1,": 4, "x 'a'": 2, "text 'a'": 5,
		"date": 4, "date 1": 5, "date date 'x'": 5, "date x": 5, "date 'x' 'y'": 9, "date + 1": 5, "DATE": 4, "datex 'x'": 6, "date1 'x'": 6,
		"true(": 4, "true()": 4, "not": 3, "not()": 4, "and": 0, "or 1": 0, "at": 0, "time(1)": 0, "zone(1)": 0, "TIME(1)": 0, "at()": 0, "f(and)": 2, "f(Or())": 2,
		"1::": 3, "1::5": 3, "1::true": 3, "1::FALSE": 3, "1::not": 3, "1::and": 3, "1::or": 3, "1::at": 3, "1::time": 3, "1::zone": 3, "1::(x)": 3, "1::'x'": 3, "1: :int": 1, "1:::int": 3, "1:int": 1, "1::int(1)": 6,
		"1 at": 4, "1 at 2": 5, "1 at time": 9, "1 at time 2": 10, "1 at time zone": 14, "1 at zone": 5, "1 at time at": 10, "1 time zone 2": 2, "1 at time zone -1": 15, "1 at time zone not 1": 15, "1 at timezone 2": 5, "1 'at' time zone 2": 2,
		"1 < 2 < 3": 6, "1 = 2 <> 3": 6, "1 < = 2": 4, "1 > = 2": 4, "1 < > 2": 4, "1 =< 2": 3, "1 => 2": 3, "1 <=> 2": 4, "1 <>= 2": 4, "1 <<= 2": 3, "1 == 2": 3, "1 != 2": 2, "= 1": 0, "1 >": 3,
		"1 = not true": 4, "- not true": 2, "1 + not true": 4, "+ 1": 0, "1 + + 1": 4, "* 1": 0, "1 * / 2": 4, "1 -": 3, "-": 1, "- -": 3, "not -": 5,
		"1.": 1, "1. 5": 1, "1 .5": 2, ".5": 0, "1.5.5": 3, "1..5": 1, "1.a": 1, "1.5a": 3, "1a": 1, "12 34": 3, "a1.5(1)": 2, "a.b(1)": 1, "1.5.": 3,
		"'a": 0, "1 2 'a": 4, ") 'a' '": 6, "'''": 0, "'a''": 0, "'a' + '": 6, "'a' + ''b'": 9, "'a' + ''b": 8, "f('": 2, "1 + '''": 4,
		"1;": 1, "1 ? 2": 2, "{1}": 0, "\"a\"": 0, "@": 0, "[1]": 0, "1 ^ 2": 2, "1 | 2": 2, "a\\": 1, "$1": 0, "1,2": 1, ",": 0, "(1,2)": 2,
		"not1": 4, "1 or2": 2, "1 andtrue": 2, "'x'date": 3, "ä": 2, "ä b": 3,
	} {
		n, at, e := expr.Parse(s)
		if e != api.ErrSyntax || at != want || !same(n, expr.Node{}, true) {
			t.Errorf("Parse(%q) = %v, %d, %d, want %d", s, n, at, e, want)
		}
		if at, e := judge(s); e != api.ErrSyntax || at != want {
			t.Errorf("the judge of %q: %d, %d, want %d", s, at, e, want)
		}
	}
}

// P22.1: what is too long, and what is no text, come ahead of all else.
func TestSizeAndForm(t *testing.T) {
	long := strings.Repeat(" ", mostBytes-1) + "1"
	if n, at, e := expr.Parse(long); e != api.OK || at != 0 || n.At != mostBytes-1 {
		t.Error("Parse", n, at, e)
	}
	if _, at, e := expr.Parse(strings.Repeat(" ", mostBytes)); e != api.ErrSyntax || at != mostBytes {
		t.Error("Parse", at, e)
	}
	for _, s := range []string{long + " ", strings.Repeat("(", mostBytes+1), strings.Repeat("\x00", mostBytes+1), strings.Repeat("'", 1<<20)} {
		if n, at, e := expr.Parse(s); e != api.ErrSize || at != 0 || !same(n, expr.Node{}, true) {
			t.Error("Parse", n, at, e)
		}
	}
	deep := strings.Repeat("(", mostDeep+1)
	for s, want := range map[string]int{
		"\x00": 0, "1 \x7f": 2, "1 2 \x01": 4, "'a \x1f'": 3, "'a\xff": 2, "'\xc3'": 1, ") \xe2\x82": 2, "ä \x80": 3, "1 + \v 2": 4, "'\xed\xa0\x80'": 1, deep + "\b": mostDeep + 1, "' \x02": 2,
	} {
		if n, at, e := expr.Parse(s); e != api.ErrForm || at != want || !same(n, expr.Node{}, true) {
			t.Errorf("Parse(%q) = %v, %d, %d, want %d", s, n, at, e, want)
		}
		if _, at, e := word.Split(s); e != api.ErrForm || at != want {
			t.Errorf("Split(%q) = %d, %d, want %d", s, at, e, want)
		}
	}
}

// P22.1: how deep it may go, by each way of going deeper, and by all of them.
func TestDeep(t *testing.T) {
	ways := []struct{ head, tail string }{{"(", ")"}, {"f(", ")"}, {"not ", ""}, {"- ", ""}, {"f(1, ", ")"}, {"(1 + ", ")"}, {"f(1 < ", ", 2)"}, {"(1 * ", ")"}}
	for _, w := range ways {
		inner := "1"
		if s := strings.Repeat(w.head, mostDeep) + inner + strings.Repeat(w.tail, mostDeep); !isOK(s) {
			t.Error("Parse", s)
		}
		s := strings.Repeat(w.head, mostDeep+1) + inner + strings.Repeat(w.tail, mostDeep+1)
		if _, at, e := expr.Parse(s); e != api.ErrDeep || at != mostDeep*len(w.head) {
			t.Error("Parse", s, at, e)
		}
	}
	full := strings.Repeat("(", mostDeep)
	for s, want := range map[string]struct {
		at  int
		err api.Errno
	}{
		full + "f(":        {20, api.ErrDeep},
		full + "  F ( ) )": {22, api.ErrDeep},
		full + "f":         {21, api.ErrSyntax},
		full + "f)":        {21, api.ErrSyntax},
		full + "f 'x'":     {22, api.ErrSyntax},
		full + "date 'x'":  {28, api.ErrSyntax},
		full + "date(":     {20, api.ErrDeep},
		full + "not":       {20, api.ErrDeep},
		full + "- )":       {20, api.ErrDeep},
		full + "1 + -":     {24, api.ErrDeep},
		full + "1 - 2 -":   {27, api.ErrSyntax},
		full + "1 + (":     {24, api.ErrDeep},
		full + "1 (":       {22, api.ErrSyntax},
		full + "+ (":       {20, api.ErrSyntax},
		full + "true(":     {24, api.ErrSyntax},
		full + "1 = not":   {24, api.ErrSyntax},
		full + "1 and not": {26, api.ErrDeep},
		full + "( '":       {22, api.ErrSyntax},
		full + ")":         {20, api.ErrSyntax},
		full + "((((":      {20, api.ErrDeep},
		") " + full + "(":  {0, api.ErrSyntax},
		"1 " + full + "(":  {2, api.ErrSyntax},
	} {
		if _, at, e := expr.Parse(s); e != want.err || at != want.at {
			t.Errorf("Parse(%q) = %d, %d, want %v", s, at, e, want)
		}
	}
	// What has ended counts no more.
	half := strings.Repeat("(", 19) + "1" + strings.Repeat(")", 19)
	for _, s := range []string{
		"(" + half + " + " + half + ")", "f(" + half + ", " + half + ")", "- " + half + " - - " + half, "not " + half + " and not " + half,
		"f(g(" + strings.Repeat("(", 18) + "1" + strings.Repeat(")", 18) + "), " + half + ")", strings.Repeat("1 - ", 500) + "1", strings.Repeat("-1 + ", 300) + "1", strings.Repeat("f() + ", 300) + "1",
	} {
		if !isOK(s) {
			t.Error("Parse", s)
		}
	}
}

func isOK(s string) bool {
	_, at, e := expr.Parse(s)
	return e == api.OK && at == 0
}

// P22.1 to P22.4, P3: whatever is written by the grammar is read as what it is.
func TestWritten(t *testing.T) {
	r := rand.New(rand.NewSource(221))
	back := 0
	for range 20000 {
		m := newMaker(r, 1+r.Intn(8), 30)
		want := m.expr()
		s := m.b.String()
		if len(s) > mostBytes {
			continue
		}
		n, at, e := expr.Parse(s)
		if e != api.OK || at != 0 || !same(n, want, true) {
			t.Fatalf("Parse(%q) = %v, %d, %d, want %v", s, n, at, e, want)
		}
		if expr.String(n) != text(want) || expr.Steps(n) != steps(want) {
			t.Fatalf("of %q: String %q, Steps %d, want %q, %d", s, expr.String(n), expr.Steps(n), text(want), steps(want))
		}
		checkBrackets(t, s, n)
		if checkBack(t, n) {
			back++
		}
	}
	if back < 10000 {
		t.Error("too few there and back", back)
	}
}

// checkBack: Parse of String is the node, but for places.
func checkBack(t *testing.T, n expr.Node) bool {
	t.Helper()
	s := expr.String(n)
	again, at, e := expr.Parse(s)
	if len(s) > mostBytes {
		if e != api.ErrSize {
			t.Fatalf("Parse of %d bytes: %d, %d", len(s), at, e)
		}
		return false
	}
	if e == api.ErrDeep && nested(n) > mostDeep {
		return false
	}
	if e != api.OK || !same(again, n, false) || expr.String(again) != s {
		t.Fatalf("Parse(%q) = %v, %d, %d, want %v", s, again, at, e, n)
	}
	return true
}

// nested is how deep the text of a node goes.
func nested(n expr.Node) int {
	most := 0
	for _, kid := range n.Kids {
		most = max(most, nested(kid))
	}
	switch n.Kind {
	case expr.Neg, expr.Not:
		return most + 2
	case expr.Op, expr.Cast, expr.Call:
		return most + 1
	}
	return most
}

// checkBrackets: brackets about it change nothing but places.
func checkBrackets(t *testing.T, s string, n expr.Node) {
	t.Helper()
	if len(s)+4 > mostBytes {
		return
	}
	in, at, e := expr.Parse("( " + s + " )")
	if e != api.OK || !same(in, n, false) || in.At != n.At+2 {
		t.Fatalf("Parse of %q in brackets: %v, %d, %d", s, in, at, e)
	}
}

// P22.1: the first part that is too deep is told, unless something is wrong ahead of it.
func TestWrittenTooDeep(t *testing.T) {
	r := rand.New(rand.NewSource(222))
	deep := 0
	for range 800 {
		m := newMaker(r, 18+r.Intn(5), 80)
		want := m.expr()
		s := m.b.String()
		n, at, e := expr.Parse(s)
		switch {
		case len(s) > mostBytes:
			if e != api.ErrSize || at != 0 {
				t.Fatalf("Parse of %d bytes: %d, %d", len(s), at, e)
			}
			continue
		case m.tooDeep < 0:
			if e != api.OK || at != 0 || !same(n, want, true) {
				t.Fatalf("Parse(%q) = %v, %d, %d, want %v", s, n, at, e, want)
			}
			continue
		}
		deep++
		if e != api.ErrDeep || at != m.tooDeep || !same(n, expr.Node{}, true) {
			t.Fatalf("Parse(%q) = %v, %d, %d, want %d", s, n, at, e, m.tooDeep)
		}
		checkCut(t, s, m)
	}
	if deep < 200 {
		t.Error("too few that are too deep", deep)
	}
}

// checkCut cuts a text that is too deep at each of its tokens.
func checkCut(t *testing.T, s string, m *maker) {
	t.Helper()
	seen := 0
	for _, p := range m.places {
		if p > m.tooDeep {
			seen++
		}
		_, at, e := expr.Parse(s[:p])
		// A call is one behind its bracket, all else from its own place on.
		if told := seen > 1 || seen == 1 && !m.call; told && (e != api.ErrDeep || at != m.tooDeep) || !told && e == api.ErrDeep {
			t.Fatalf("Parse(%q) = %d, %d, too deep at %d", s[:p], at, e, m.tooDeep)
		}
	}
}

// mayBeDeep: has it so many signs that it could be too deep?
func mayBeDeep(s string) bool {
	return strings.Count(s, "(")+strings.Count(s, "-")+strings.Count(strings.ToLower(s), "not") > mostDeep
}

func checkJudged(t *testing.T, s string) {
	t.Helper()
	if len(s) <= mostBytes && mayBeDeep(s) {
		return
	}
	n, at, e := expr.Parse(s)
	wantAt, want := judge(s)
	if e != want || at != wantAt {
		t.Fatalf("Parse(%q) = %v, %d, %d, want %d, %d", s, n, at, e, wantAt, want)
	}
	if e != api.OK && !same(n, expr.Node{}, true) {
		t.Fatalf("Parse(%q) = %v beside %d", s, n, e)
	}
	if e == api.OK {
		checkPlaces(t, s, n)
		checkBack(t, n)
	}
}

// P22.4: places are within the text.
func checkPlaces(t *testing.T, s string, n expr.Node) {
	t.Helper()
	if n.At < 0 || n.At >= len(s) {
		t.Fatalf("the place %d in %q", n.At, s)
	}
	for _, kid := range n.Kids {
		checkPlaces(t, s, kid)
	}
}

// P22.1: all short rows of tokens, held against the grammar.
func TestShortRows(t *testing.T) {
	tokens := []string{"1", "'a'", "true", "date", "f", "(", ")", ",", "-", "+", "<", "not", "and", "at", "time", "zone", "::", "."}
	var rows func(s string, left int)
	rows = func(s string, left int) {
		checkJudged(t, s)
		if left == 0 {
			return
		}
		for _, x := range tokens {
			rows(s+" "+x, left-1)
		}
	}
	rows("", 4)
}

// P22.1, P3: rows of tokens by chance, and expressions with one token changed.
func TestRows(t *testing.T) {
	r := rand.New(rand.NewSource(223))
	tokens := []string{"1", "2.5", "'a'", "'it''s'", "''", "true", "FALSE", "date", "timestamp", "timestamptz", "interval", "f", "x1", "(", ")", ",", "-", "+", "*", "/", "%", "=", "<>", "<", "<=", ">", ">=", "not", "and", "or", "at", "time", "zone", "at time zone", "::", "::int", ".", ":", "'", "f(", "ä"}
	for range 30000 {
		var b strings.Builder
		for range r.Intn(12) {
			b.WriteString(tokens[r.Intn(len(tokens))])
			b.WriteString([]string{"", " ", " ", "\n"}[r.Intn(4)])
		}
		checkJudged(t, b.String())
	}
	for range 20000 {
		m := newMaker(r, 1+r.Intn(5), 20)
		m.expr()
		s := m.b.String()
		if len(s) > 200 {
			continue
		}
		p := m.places[r.Intn(len(m.places))]
		q := m.places[r.Intn(len(m.places))]
		switch r.Intn(4) {
		case 0:
			checkJudged(t, s[:p]+tokens[r.Intn(len(tokens))]+" "+s[p:])
		case 1:
			checkJudged(t, s[:min(p, q)]+s[max(p, q):])
		case 2:
			checkJudged(t, s[:p])
		default:
			checkJudged(t, s[:p]+s[q:])
		}
	}
}

// P22.1, P6: bytes of any kind end with an expression or just one error.
func TestAnyBytes(t *testing.T) {
	r := rand.New(rand.NewSource(224))
	near := "01.'\"()<>=:+-*/%,;_aAzZnotandorattimezone \t\n\r\x00\x1f\x7f\x80\xc3\xa4\xff"
	for range 40000 {
		b := make([]byte, r.Intn(24))
		for i := range b {
			b[i] = near[r.Intn(len(near))]
			if r.Intn(30) == 0 {
				b[i] = byte(r.Intn(256))
			}
		}
		checkJudged(t, string(b))
	}
	for range 300 {
		b := make([]byte, mostBytes-2+r.Intn(5))
		for i := range b {
			b[i] = near[r.Intn(len(near)-8)]
		}
		n, at, e := expr.Parse(string(b))
		if at < 0 || at > len(b) || e == api.OK && n.Kind == 0 || e != api.OK && n.Kind != 0 {
			t.Fatalf("Parse(%q) = %v, %d, %d", b, n, at, e)
		}
	}
}

// P22.2: long rows are written, and counted, to their end.
func TestLongRows(t *testing.T) {
	n, _, e := expr.Parse(strings.Repeat("1+", 1023) + "1")
	if e != api.OK || expr.Steps(n) != 2047 {
		t.Fatal("Steps", expr.Steps(n), e)
	}
	want := strings.Repeat("(", 1023) + "1" + strings.Repeat(" + 1)", 1023)
	if s := expr.String(n); s != want {
		t.Error("String", len(s), len(want))
	}
	n, _, e = expr.Parse("f(" + strings.Repeat("1,", 1000) + "1)")
	if e != api.OK || expr.Steps(n) != 1002 || len(n.Kids) != 1001 {
		t.Error("Steps", expr.Steps(n), e)
	}
	for s, want := range map[string]int{"1": 1, "date 'x'": 1, "- date 'x'": 2, "'x'": 1, "f()": 1, "f(1 + 2, date 'x')": 5, "1::int": 2, "not true": 2, "((1))": 1, "1 at time zone 'x'": 3} {
		if n, _, e := expr.Parse(s); e != api.OK || expr.Steps(n) != want {
			t.Error("Steps", s, expr.Steps(n), e)
		}
	}
}

// Rule 4: what is written into an answer is seen by no later one.
func TestAnswersAreNew(t *testing.T) {
	const s = "f(1, g(2), 3) + date 'x'"
	n, _, _ := expr.Parse(s)
	want := text(n)
	first := n.Kids[0].Kids
	_ = append(first[:1], expr.Node{Kind: expr.Bool, Text: "true"})
	n.Kids[1].Kids[0].Text = "y"
	if m, _, e := expr.Parse(s); e != api.OK || text(m) != want || expr.String(m) != want {
		t.Error("Parse", m, e)
	}
	m, _, _ := expr.Parse(s)
	a, b := expr.String(m), expr.Steps(m)
	if a != want || b != 7 || !strings.Contains(text(m), "g(2)") {
		t.Error("String or Steps changed it", a, b, m)
	}
}
