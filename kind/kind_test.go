package kind_test

import (
	"math"
	"math/rand"
	"slices"
	"strings"
	"testing"

	"computus/api"
	"computus/expr"
	"computus/kind"
)

// The chapter's table, as it stands there.
const chapter = `
+ | int, int → int; numeric, numeric → numeric; int, numeric → numeric; numeric, int → numeric; date, int → date; int, date → date; date, interval → timestamp; interval, date → timestamp; timestamp, interval → timestamp; interval, timestamp → timestamp; timestamptz, interval → timestamptz; interval, timestamptz → timestamptz; interval, interval → interval
- | int, int → int; numeric, numeric → numeric; int, numeric → numeric; numeric, int → numeric; date, int → date; date, date → int; date, interval → timestamp; timestamp, interval → timestamp; timestamp, timestamp → interval; timestamptz, interval → timestamptz; timestamptz, timestamptz → interval; interval, interval → interval
* | int, int → int; numeric, numeric → numeric; int, numeric → numeric; numeric, int → numeric; interval, int → interval; int, interval → interval
/ | int, int → int
% | int, int → int
and | bool, bool → bool
or | bool, bool → bool
not | bool → bool
neg | int → int; numeric → numeric; interval → interval
at time zone | timestamp, text → timestamptz; timestamptz, text → timestamp
::text | int → text; numeric → text; bool → text; text → text; date → text; timestamp → text; timestamptz → text; interval → text
::date | text → date; date → date; timestamp → date; timestamptz → date
::timestamp | text → timestamp; date → timestamp; timestamp → timestamp; timestamptz → timestamp
::timestamptz | text → timestamptz; date → timestamptz; timestamp → timestamptz; timestamptz → timestamptz
::interval | text → interval; interval → interval
::int | text → int; int → int; numeric → int
::numeric | text → numeric; int → numeric; numeric → numeric
date_trunc | text, timestamp → timestamp; text, timestamptz → timestamptz; text, timestamptz, text → timestamptz
date_bin | interval, timestamp, timestamp → timestamp; interval, timestamptz, timestamptz → timestamptz
extract | text, date → numeric; text, timestamp → numeric; text, timestamptz → numeric; text, interval → numeric
age | timestamp, timestamp → interval
justify | interval → interval
make_date | int, int, int → date
isfinite | date → bool; timestamp → bool; timestamptz → bool; interval → bool
overlaps | timestamp, timestamp, timestamp, timestamp → bool; timestamptz, timestamptz, timestamptz, timestamptz → bool
generate_series | int, int, int → int; timestamp, timestamp, interval → timestamp; timestamptz, timestamptz, interval → timestamptz
`

// Of these each two are of one kind, but for numbers.
const compared = "int, int; numeric, numeric; int, numeric; numeric, int; text, text; date, date; timestamp, timestamp; timestamptz, timestamptz; interval, interval"

var names = []string{"", "bool", "int", "numeric", "text", "date", "timestamp", "timestamptz", "interval"}

// rows is the table: what comes of an operation and its arguments, and the
// operations in order.
func rows(t *testing.T) (map[string]string, []string) {
	t.Helper()
	all := map[string]string{}
	put := func(op, args, gives string) {
		k := op + "(" + args + ")"
		// P23.3: what comes of an operation is one kind.
		if _, ok := all[k]; ok {
			t.Error("two rows of", k)
		}
		all[k] = gives
	}
	var order []string
	for _, line := range strings.Split(strings.TrimSpace(chapter), "\n") {
		op, cells, _ := strings.Cut(line, " | ")
		order = append(order, op)
		for _, cell := range strings.Split(cells, "; ") {
			args, gives, _ := strings.Cut(cell, " → ")
			put(op, args, gives)
		}
	}
	for _, op := range []string{"=", "<>", "<", "<=", ">", ">="} {
		order = append(order, op)
		for _, cell := range strings.Split(compared, "; ") {
			put(op, cell, "bool")
		}
	}
	put("=", "bool, bool", "bool")
	put("<>", "bool, bool", "bool")
	return all, order
}

// named is a list of kinds as the chapter writes it.
func named(args []int) string {
	var l []string
	for _, k := range args {
		if k < 1 || k >= len(names) {
			return "?"
		}
		l = append(l, names[k])
	}
	return strings.Join(l, ", ")
}

// P23.1: kinds by their names, and back.
func TestNames(t *testing.T) {
	numbers := []int{math.MinInt, math.MinInt64, -1 << 32, math.MaxInt, 1 << 32, 1<<32 + 1, 256, 257}
	for k := -20; k <= 20; k++ {
		numbers = append(numbers, k)
	}
	for _, k := range numbers {
		want := ""
		if k >= 1 && k <= 8 {
			want = names[k]
		}
		if got := kind.Name(k); got != want {
			t.Errorf("Name(%d) = %q", k, got)
		}
	}
	for k, name := range names {
		if got := kind.Kind(name); got != k {
			t.Errorf("Kind(%q) = %d", name, got)
		}
		for _, s := range []string{strings.ToUpper(name), strings.Title(name), name + " ", " " + name, name + "s", "x" + name, name + "\x00", name + name} {
			if got := kind.Kind(s); name != "" && got != 0 {
				t.Errorf("Kind(%q) = %d", s, got)
			}
		}
		for i := range name {
			want := slices.Index(names, name[:i])
			if got := kind.Kind(name[:i]); got != max(want, 0) {
				t.Errorf("Kind(%q) = %d", name[:i], got)
			}
		}
	}
	for _, s := range []string{"", " ", "null", "timestamp with time zone", "int4", "integer", "decimal", "\xff", "tïme", strings.Repeat("int", 1000)} {
		if got := kind.Kind(s); got != 0 {
			t.Errorf("Kind(%q) = %d", s, got)
		}
	}
}

// P23.1, P23.3: each operation on any kinds.
func TestFind(t *testing.T) {
	all, order := rows(t)
	found := 0
	check := func(op string, args []int) {
		before := slices.Clone(args)
		k, list, ok := kind.Find(op, args)
		gives, want := all[op+"("+named(args)+")"]
		if ok != want || names[k] != gives || list != (want && op == "generate_series") {
			t.Fatalf("Find(%q, %v) = %d, %v, %v, want %q", op, args, k, list, ok, gives)
		}
		if !slices.Equal(args, before) {
			t.Fatal("Find changed its arguments", args, before)
		}
		if ok {
			found++
		}
	}
	lists := argLists(4)
	for _, op := range order {
		check(op, nil)
		for _, args := range lists {
			check(op, args)
		}
		for _, args := range [][]int{{-1}, {9}, {2, 9}, {-1, 2}, {math.MinInt}, {math.MaxInt, 2}, {2, 2, 2, 2, 2}, {6, 6, 6, 6, 6}, make([]int, 1000), {1 << 32, 1 << 32}, {1<<32 + 2, 2}} {
			check(op, args)
		}
	}
	if found != len(all) {
		t.Error("rows", found, len(all))
	}
}

// argLists is all lists of kinds, one of them at least, null too, and so many at most.
func argLists(most int) [][]int {
	var all [][]int
	last := [][]int{nil}
	for range most {
		var next [][]int
		for _, l := range last {
			for k := range 9 {
				next = append(next, append(slices.Clone(l), k))
			}
		}
		all = append(all, next...)
		last = next
	}
	return all
}

// P23.1: what is no operation has no row.
func TestFindNoOperation(t *testing.T) {
	for _, op := range []string{"", " ", "?", "AND", "Not", "NEG", "+ ", " +", "==", "!=", "=<", "=>", "<=>", "::", "::bool", "::Text", "text", "date", ":: text", "at time", "AT TIME ZONE", "at  time  zone", "DATE_TRUNC", "trunc", "date_trun", "date_truncs", "generate_serie", "now", "\xff", "int, int: int;", ";", "++", strings.Repeat("+", 5000)} {
		for _, args := range append(argLists(3), nil) {
			if k, list, ok := kind.Find(op, args); k != 0 || list || ok {
				t.Errorf("Find(%q, %v) = %d, %v, %v", op, args, k, list, ok)
			}
		}
	}
}

// P23.1: all operations, in their order; rule 4: what is written into the
// answer is seen by no later one.
func TestOps(t *testing.T) {
	_, order := rows(t)
	l := kind.Ops()
	if !slices.Equal(l, order) || len(l) != 32 {
		t.Error("Ops", l)
	}
	for i := range l {
		l[i] = "x"
	}
	_ = append(l[:3], "y", "z")
	if again := kind.Ops(); !slices.Equal(again, order) {
		t.Error("Ops", again)
	}
	if k, _, ok := kind.Find("+", []int{2, 2}); k != 2 || !ok {
		t.Error("Find", k, ok)
	}
}

// told is what the chapter says of a node.
type told struct {
	kind string
	list bool
	at   int
	bad  bool
}

// judge is P23.2 by the chapter's table.
func judge(all map[string]string, n expr.Node, root bool) told {
	var args []string
	if n.Kind != expr.Lit {
		for _, kid := range n.Kids {
			k := judge(all, kid, false)
			if k.bad {
				return k
			}
			args = append(args, k.kind)
		}
	}
	op := n.Text
	switch n.Kind {
	case expr.Int:
		return told{kind: "int"}
	case expr.Dec:
		return told{kind: "numeric"}
	case expr.Text:
		return told{kind: "text"}
	case expr.Bool:
		return told{kind: "bool"}
	case expr.Lit:
		return told{kind: n.Text}
	case expr.Neg:
		op = "neg"
	case expr.Not:
		op = "not"
	case expr.Cast:
		op = "::" + n.Text
	}
	gives, ok := all[op+"("+strings.Join(args, ", ")+")"]
	list := op == "generate_series"
	if !ok || list && !root {
		return told{at: n.At, bad: true}
	}
	return told{kind: gives, list: list}
}

// checked holds Check against the judge; it tells the kind.
func checked(t *testing.T, all map[string]string, s string) int {
	t.Helper()
	n, _, e := expr.Parse(s)
	if e != api.OK {
		t.Fatalf("Parse(%q) = %d", s, e)
	}
	text := expr.String(n)
	want := judge(all, n, true)
	k, list, at, e := kind.Check(n)
	if want.bad {
		if k != 0 || list || at != want.at || e != api.ErrType {
			t.Fatalf("Check(%q) = %d, %v, %d, %d, want no kind at %d", s, k, list, at, e, want.at)
		}
	} else if names[k] != want.kind || list != want.list || at != 0 || e != api.OK {
		t.Fatalf("Check(%q) = %d, %v, %d, %d, want %v", s, k, list, at, e, want)
	}
	if expr.String(n) != text {
		t.Fatal("Check changed its node", s)
	}
	return k
}

// P23.2: ordinary expressions.
func TestCheck(t *testing.T) {
	all, _ := rows(t)
	for s, want := range map[string]int{
		"1": api.KInt, "1.5": api.KDec, "'x'": api.KText, "true": api.KBool, "FALSE": api.KBool,
		"date 'x'": api.KDate, "timestamp 'x'": api.KStamp, "timestamptz 'x'": api.KTz, "interval 'x'": api.KSpan,
		"((1))": api.KInt, "- 1": api.KInt, "- 1.5": api.KDec, "- interval 'x'": api.KSpan, "not true": api.KBool,
		"1 + 1.5": api.KDec, "date 'x' + 1": api.KDate, "1 + date 'x'": api.KDate, "date 'x' + interval 'x'": api.KStamp,
		"date 'x' - date 'y'": api.KInt, "timestamp 'x' - timestamp 'y'": api.KSpan, "1 < 2 and not true": api.KBool,
		"interval '1 day' * 2": api.KSpan, "2 * interval '1 day'": api.KSpan, "'x'::timestamptz at time zone 'UTC'": api.KStamp,
		"timestamp 'x' at time zone 'UTC'": api.KTz, "extract('day', date 'x')": api.KDec, "1::text": api.KText, "1::TEXT": api.KText,
		"(1 < 2) = (3 < 4)": api.KBool, "true <> false": api.KBool, "Make_Date(1, 2, 3)": api.KDate, "1.5::int": api.KInt,
		"date_trunc('x', timestamptz 'x', 'y')": api.KTz, "isfinite(interval 'x')": api.KBool, "1 = 1.5": api.KBool,
		"overlaps(timestamp 'x', timestamp 'x', timestamp 'x', timestamp 'x')": api.KBool, "neg(1)": api.KInt,
	} {
		if k := checked(t, all, s); k != want {
			t.Errorf("Check(%q) = %d, want %d", s, k, want)
		}
	}
}

// P23.2: where an expression has no kind.
func TestCheckNoKind(t *testing.T) {
	for s, at := range map[string]int{
		"1 + true": 2, "f(1)": 0, " f()": 1, "1 + (2 + 'x')": 7, "- date 'x'": 0, "true < false": 5, "not 1": 0, "1 and true": 2,
		"'x' + 'y'": 4, "1 / 1.5": 2, "1.5 % 2": 4, "date 'x' + date 'y'": 9, "date 'x' + 1.5": 9, "date 'x' = timestamp 'x'": 9,
		"timestamp 'x' - timestamptz 'x'": 14, "interval 'x' - timestamp 'x'": 13, "interval 'x' * 1.5": 13, "interval 'x' / 2": 13,
		"1::bool": 1, "true::int": 4, "1::date": 1, "date 'x'::interval": 8, "timestamp 'x' at time zone 1": 14, "date 'x' at time zone 'y'": 9,
		"1 + f(true + 1, g())": 11, "(1 + true) + f()": 3, "f(g(), 1 + true)": 2, "age(timestamp 'x')": 0, "age(timestamptz 'x', timestamptz 'y')": 0,
		"date(1)": 0, "1::integer": 1, "date_trunc('x', date 'x')": 0, "date_trunc('x', timestamp 'x', 'y')": 0, "make_date(1, 2)": 0, "make_date(1, 2, 3, 4)": 0,
		"isfinite(1)": 0, "1 = '1'": 2, "true = 1": 5, "justify('1 day')": 0,
		// Lists that are not the expression itself.
		"generate_series(1, 2, 1) + 1": 0, "1 + generate_series(1, 2, 1)": 4, "- generate_series(1, 2, 1)": 2, "generate_series(1, 2, 1)::text": 0,
		"generate_series(generate_series(1, 2, 1), 2, 1)": 16, "generate_series(1, 2, generate_series(1, 2, true))": 22, "generate_series(1, 2)": 0,
		"generate_series(1, 2, 1.5)": 0, "generate_series(1, 2, 1) + f()": 0, "f() + generate_series(1, 2, 1)": 0, "true + 1 = generate_series(1, 2, 1)": 5,
		"generate_series(date 'x', date 'x', 1)": 0, "not (generate_series(1, 2, 1))": 5,
	} {
		n, _, e := expr.Parse(s)
		if e != api.OK {
			t.Fatal("Parse", s, e)
		}
		if k, list, place, e := kind.Check(n); k != 0 || list || place != at || e != api.ErrType {
			t.Errorf("Check(%q) = %d, %v, %d, %d, want %d", s, k, list, place, e, at)
		}
	}
}

// P23.2: a list is one, if it is the expression itself.
func TestCheckList(t *testing.T) {
	for s, want := range map[string]int{
		"generate_series(1, 2, 1)": api.KInt, "(GENERATE_SERIES(1, 2 + 3, - 1))": api.KInt,
		"generate_series(timestamp 'x', timestamp 'x', interval 'x')":       api.KStamp,
		"generate_series(timestamptz 'x', timestamptz 'x', - interval 'x')": api.KTz,
	} {
		n, _, _ := expr.Parse(s)
		if k, list, at, e := kind.Check(n); k != want || !list || at != 0 || e != api.OK {
			t.Errorf("Check(%q) = %d, %v, %d, %d", s, k, list, at, e)
		}
	}
}

// leaf is a text of a kind; any, if it is "".
func leaf(r *rand.Rand, k string) string {
	if k == "" {
		k = names[1+r.Intn(8)]
	}
	switch k {
	case "bool":
		return "true"
	case "int":
		return "12"
	case "numeric":
		return "1.5"
	case "text":
		return "'x'"
	}
	return k + " 'x'"
}

// made is an expression by chance, mostly of a kind.
func made(r *rand.Rand, all map[string]string, keys []string, k string, deep int) string {
	if deep == 0 || r.Intn(5) == 0 {
		return leaf(r, k)
	}
	if r.Intn(25) == 0 {
		k = ""
	}
	var fit []string
	for _, key := range keys {
		if k == "" || all[key] == k {
			fit = append(fit, key)
		}
	}
	key := fit[r.Intn(len(fit))]
	op, inner, _ := strings.Cut(strings.TrimSuffix(key, ")"), "(")
	var args []string
	for _, a := range strings.Split(inner, ", ") {
		args = append(args, made(r, all, keys, a, deep-1))
	}
	return written(op, args)
}

// written is an operation as expressions have it.
func written(op string, args []string) string {
	switch {
	case op == "neg":
		return "(- " + args[0] + ")"
	case op == "not":
		return "(not " + args[0] + ")"
	case strings.HasPrefix(op, "::"):
		return "(" + args[0] + ")" + op
	case strings.ContainsAny(op[:1], "+-*/%=<>") || op == "and" || op == "or" || op == "at time zone":
		return "((" + args[0] + ") " + op + " (" + args[1] + "))"
	}
	return op + "(" + strings.Join(args, ", ") + ")"
}

// P23.2, P23.4, P3: whatever is put together by the table, and wrongly too.
func TestCheckAny(t *testing.T) {
	all, _ := rows(t)
	var keys []string
	for key := range all {
		keys = append(keys, key)
	}
	slices.Sort(keys)
	r := rand.New(rand.NewSource(231))
	right, wrong := 0, 0
	for range 20000 {
		s := made(r, all, keys, names[1+r.Intn(8)], r.Intn(5))
		n, _, e := expr.Parse(s)
		if e == api.ErrDeep || e == api.ErrSize {
			continue
		}
		k := checked(t, all, s)
		if k == 0 {
			wrong++
			continue
		}
		right++
		if _, list, _, _ := kind.Check(n); !list {
			checkSame(t, s, n, k)
		}
	}
	if right < 3000 || wrong < 1000 {
		t.Error("too few", right, wrong)
	}
}

// checkSame: P23.4: brackets, and a cast to its own kind, change no kind.
func checkSame(t *testing.T, s string, n expr.Node, k int) {
	t.Helper()
	for _, x := range []string{"(" + s + ")", "(" + s + ")::" + names[k]} {
		m, _, e := expr.Parse(x)
		if e == api.ErrDeep || e == api.ErrSize || k == api.KBool && x[len(x)-1] != ')' {
			continue
		}
		if got, list, at, e := kind.Check(m); got != k || list || at != 0 || e != api.OK {
			t.Fatalf("Check(%q) = %d, %v, %d, %d, want %d", x, got, list, at, e, k)
		}
	}
	if len(n.Kids) != 2 || n.Kind != expr.Op {
		return
	}
	// A kid that is cast to its own kind.
	kid, _, _, _ := kind.Check(n.Kids[0])
	if kid == api.KBool {
		return
	}
	x := "(" + expr.String(n.Kids[0]) + ")::" + names[kid] + " " + n.Text + " (" + expr.String(n.Kids[1]) + ")"
	m, _, e := expr.Parse(x)
	if e == api.ErrDeep || e == api.ErrSize {
		return
	}
	if got, _, _, e := kind.Check(m); e != api.OK || got != k {
		t.Fatalf("Check(%q) = %d, %d, want %d", x, got, e, k)
	}
}

// P6: long rows, deep ones, and what is no node end.
func TestCheckEnds(t *testing.T) {
	n, _, _ := expr.Parse(strings.Repeat("1+", 1023) + "1")
	if k, _, _, e := kind.Check(n); k != api.KInt || e != api.OK {
		t.Error("Check", k, e)
	}
	n, _, _ = expr.Parse(strings.Repeat("1+", 1021) + "true")
	if k, _, at, e := kind.Check(n); k != 0 || at != 2041 || e != api.ErrType {
		t.Error("Check", k, at, e)
	}
	n, _, _ = expr.Parse("f(" + strings.Repeat("1,", 1000) + "1)")
	if k, _, at, e := kind.Check(n); k != 0 || at != 0 || e != api.ErrType {
		t.Error("Check", k, at, e)
	}
	n, _, _ = expr.Parse(strings.Repeat("not ", 20) + "true")
	if k, _, at, e := kind.Check(n); k != api.KBool || at != 0 || e != api.OK {
		t.Error("Check", k, at, e)
	}
	for _, n := range []expr.Node{{}, {Kind: -1}, {Kind: 11, Text: "+"}, {Kind: expr.Op, Text: "+"}, {Kind: expr.Lit, Text: "date"}, {Kind: expr.Neg}, {Kind: expr.Cast}} {
		if k, list, _, e := kind.Check(n); k != 0 || list || e != api.ErrType {
			t.Error("Check", n, k, list, e)
		}
	}
}
