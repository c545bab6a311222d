package line_test

import (
	"math/rand"
	"regexp"
	"slices"
	"strconv"
	"strings"
	"testing"

	"computus/api"
	"computus/line"
)

var (
	lineForm  = regexp.MustCompile(`\A((?:[ \t\r]|[!$-~]|"[\t !#-~]*")*)(?:#[\t\r -~]*)?\z`)
	fieldForm = regexp.MustCompile(`(?:[!$-~]|"[\t !#-~]*")+`)
)

// wantSplit is what Split must answer, by patterns of lines and fields.
func wantSplit(s string) ([]line.Line, int, api.Errno) {
	if len(s) > 8192 {
		return nil, 0, api.ErrSize
	}
	var l []line.Line
	for i, text := range strings.Split(s, "\n") {
		m := lineForm.FindStringSubmatch(text)
		if m == nil {
			return nil, i + 1, api.ErrForm
		}
		var fields []string
		for _, f := range fieldForm.FindAllString(m[1], -1) {
			fields = append(fields, strings.ReplaceAll(f, `"`, ""))
		}
		if len(fields) > 16 || len(fields) > 0 && len(l) == 400 {
			return nil, i + 1, api.ErrSize
		}
		if len(fields) > 0 {
			l = append(l, line.Line{N: i + 1, Fields: fields})
		}
	}
	return l, 0, api.OK
}

func sameFields(a, b line.Line) bool { return slices.Equal(a.Fields, b.Fields) }

func same(a, b line.Line) bool { return a.N == b.N && sameFields(a, b) }

// checkSplit: P6.1, and of what is taken P6.3.
func checkSplit(t *testing.T, s string) {
	t.Helper()
	want, wantAt, wantErr := wantSplit(s)
	l, at, e := line.Split(s)
	if !slices.EqualFunc(l, want, same) || at != wantAt || e != wantErr {
		t.Fatalf("Split(%q) is %v, %d, %d, not %v, %d, %d", s, l, at, e, want, wantAt, wantErr)
	}
	if e == api.OK {
		checkBack(t, l)
	}
}

// checkBack: P6.3, as it was written.
func checkBack(t *testing.T, l []line.Line) {
	t.Helper()
	s := line.Join(l)
	// A source of 8192 bytes may end without a byte 10; what is joined of it is too long by that one.
	if len(s) == api.MaxText+1 {
		return
	}
	if back, at, e := line.Split(s); !slices.EqualFunc(back, l, sameFields) || at != 0 || e != api.OK {
		t.Fatalf("Join(%v) is %q, read as %v, %d, %d", l, s, back, at, e)
	}
}

// eachText goes through all texts of up to so many of the letters.
func eachText(letters string, most int, f func(string)) {
	f("")
	if most == 0 {
		return
	}
	for i := range len(letters) {
		eachText(letters, most-1, func(s string) { f(letters[i:i+1] + s) })
	}
}

// P6.1: by hand.
func TestSplitByHand(t *testing.T) {
	for s, want := range map[string][]line.Line{
		"":                                 nil,
		"\n":                               nil,
		" \t\r\n\n# all of it":             nil,
		"Rule  A \"x y\" # no\n\nb":        {{1, []string{"Rule", "A", "x y"}}, {3, []string{"b"}}},
		"a\n":                              {{1, []string{"a"}}},
		"\n\na\tb\r\n":                     {{3, []string{"a", "b"}}},
		"a\rb":                             {{1, []string{"a", "b"}}},
		`""`:                               {{1, []string{""}}},
		`"" "" a`:                          {{1, []string{"", "", "a"}}},
		`""""`:                             {{1, []string{""}}},
		`"" ""# ""`:                        {{1, []string{"", ""}}},
		`""#`:                              {{1, []string{""}}},
		`a""`:                              {{1, []string{"a"}}},
		`a"b c"d`:                          {{1, []string{"ab cd"}}},
		`"a""b"`:                           {{1, []string{"ab"}}},
		`"a" "b"`:                          {{1, []string{"a", "b"}}},
		"\"\t\"\t\" \"":                    {{1, []string{"\t", " "}}},
		`"#" b"#"c#d`:                      {{1, []string{"#", "b#c"}}},
		`a#b`:                              {{1, []string{"a"}}},
		"#a b\nc":                          {{2, []string{"c"}}},
		"a # \"\nb # it's \" \" \"":        {{1, []string{"a"}}, {2, []string{"b"}}},
		"a # \"\r":                         {{1, []string{"a"}}},
		"a #\r\t\x7e":                      {{1, []string{"a"}}},
		"!~ $%&'()*+,-./:;<=>?@[\\]^_`{|}": {{1, []string{"!~", "$%&'()*+,-./:;<=>?@[\\]^_`{|}"}}},
		`"!~$ '"`:                          {{1, []string{"!~$ '"}}},
	} {
		if l, at, e := line.Split(s); !slices.EqualFunc(l, want, same) || at != 0 || e != api.OK {
			t.Errorf("Split(%q) is %v, %d, %d", s, l, at, e)
		}
	}
}

// P6.1: lines that are not as they must be.
func TestSplitWrong(t *testing.T) {
	for s, want := range map[string]int{"\"": 1, "a\n\"b": 2, "\"a\n\"": 1, "a \"\"\"": 1, "\"a\"b\"": 1, "\"a # b": 1, "\"a\nb\"": 1,
		"\"\r\"": 1, "\"a\rb\"": 1, "\n\n\"\r": 3, "\"\r\n": 1, "\x01": 1, "\x00": 1, "\x1f": 1, "\x7f": 1, "\x80": 1, "\xff": 1, "\v": 1, "\f": 1,
		"\"\x7f\"": 1, "\"\x00\"": 1, "\"\u00e9\"": 1, "# \x80": 1, "#\x7f": 1, "#\x00": 1, "a\n#\u00e9": 2, "\u00e9": 1, "\ufffd": 1, "\u65e5": 1, "\U0001f600": 1, "a\n\nb \xff\n\x00": 3, "\u00a0": 1, "\u2028": 1} {
		if l, at, e := line.Split(s); l != nil || at != want || e != api.ErrForm {
			t.Errorf("Split(%q) is %v, %d, %d", s, l, at, e)
		}
	}
}

// P6.1: each byte alone, in a field, in quotes and in what is left out; each rune of few that have more bytes.
func TestSplitEachByte(t *testing.T) {
	l := []string{"\u0080", "\u00e9", "\u0120", "\u0109", "\u010a", "\u0122", "\u0123", "\u0141", "\ufffd", "\u65e5", "\U0001f600", "\xc3", "\xe6\x97"}
	for b := range 256 {
		l = append(l, string([]byte{byte(b)}))
	}
	for _, c := range l {
		for _, s := range []string{c, "a" + c + "b", "\"" + c + "\"", "a\"b" + c + "c\"d", "#" + c, "a # \"" + c, "a\n" + c + "\nb", "\"a" + c, c + "\"\"", "\"\"" + c, c + c} {
			checkSplit(t, s)
		}
	}
}

// P6.1, P6.3: all short texts.
func TestSplitEachText(t *testing.T) {
	eachText("a \"#\n", 7, func(s string) { checkSplit(t, s) })
	eachText("~ \t\r\n\"#\x7f\x80", 5, func(s string) { checkSplit(t, s) })
}

// repeat is so many fields with blanks between.
func repeat(field string, n int) string {
	return strings.TrimSuffix(strings.Repeat(field+" ", n), " ")
}

// P6.1: 16 fields may be, 17 not; what is left out is none.
func TestSplitManyFields(t *testing.T) {
	for _, field := range []string{"a", `""`, `" "`, `"#"`, `a"b c"`} {
		if l, at, e := line.Split("\n" + repeat(field, 16)); len(l) != 1 || len(l[0].Fields) != 16 || at != 0 || e != api.OK {
			t.Error("Split of 16", field, l, at, e)
		}
		checkSplit(t, repeat(field, 16)+" # "+repeat(field, 5))
		for _, n := range []int{17, 18, 400} {
			if l, at, e := line.Split("a\n\n" + repeat(field, n) + "\n\x00"); l != nil || at != 3 || e != api.ErrSize {
				t.Error("Split of", n, field, l, at, e)
			}
		}
		checkSplit(t, repeat(field, 17)+"#")
		checkSplit(t, repeat(field, 16)+"#"+field)
	}
}

// P6.1: of one line what is not right comes first, of several the first line.
func TestSplitTwoErrors(t *testing.T) {
	many := repeat("a", 17)
	for _, wrong := range []string{"\x00", "\"", "\"\r\"", "# \x80", "\"\r"} {
		for _, s := range []string{many + " " + wrong, many + wrong} {
			if l, at, e := line.Split("\n" + s + "\nb"); l != nil || at != 2 || e != api.ErrForm {
				t.Errorf("Split(%q) is %v, %d, %d", s, l, at, e)
			}
		}
		if l, at, e := line.Split(many + "\n" + wrong); l != nil || at != 1 || e != api.ErrSize {
			t.Errorf("Split of many and %q is %v, %d, %d", wrong, l, at, e)
		}
		if l, at, e := line.Split(wrong + "\n" + many); l != nil || at != 1 || e != api.ErrForm {
			t.Errorf("Split of %q and many is %v, %d, %d", wrong, l, at, e)
		}
		full := strings.Repeat("a\n", 400)
		for _, s := range []string{"b " + wrong, wrong, many + " " + wrong} {
			if l, at, e := line.Split(full + s + "\nb"); l != nil || at != 401 || e != api.ErrForm {
				t.Errorf("Split of 400 lines and %q is %d lines, %d, %d", s, len(l), at, e)
			}
		}
		if l, at, e := line.Split(full + "#\nb\n" + wrong); l != nil || at != 402 || e != api.ErrSize {
			t.Errorf("Split of 401 lines and %q is %d lines, %d, %d", wrong, len(l), at, e)
		}
	}
}

// P6.1: 400 lines that have a field may be, the 401st not; those that have none do not count.
func TestSplitManyLines(t *testing.T) {
	for _, row := range []string{"a\n", "\"\"\n", "\n#\na\n", "a b # c\n", " \r\n\"#\"\n"} {
		full := strings.Repeat(row, 400)
		for _, end := range []string{"", "\n", "# b", "\n \t\r\n#\n\n", strings.Repeat("\n", 500)} {
			if l, at, e := line.Split(full + end); len(l) != 400 || at != 0 || e != api.OK {
				t.Errorf("Split of 400 %q and %q is %d lines, %d, %d", row, end, len(l), at, e)
			}
			checkSplit(t, full+end)
			checkSplit(t, full+end+row)
			checkSplit(t, full+end+"\"\"")
		}
		if l, at, e := line.Split(full + "\n\nb"); l != nil || at != 400*strings.Count(row, "\n")+3 || e != api.ErrSize {
			t.Errorf("Split of 401 %q is %d lines, %d, %d", row, len(l), at, e)
		}
	}
	// The last byte ends at line 401, which has no field.
	if l, at, e := line.Split(strings.Repeat("a\n", 399) + "a"); len(l) != 400 || l[399].N != 400 || at != 0 || e != api.OK {
		t.Error("Split of 400 lines", len(l), at, e)
	}
}

// P6.1: a source may have 8192 bytes; of a longer one nothing else is told.
func TestSplitSizes(t *testing.T) {
	for _, c := range []string{"a", " ", "\n", "#", "\"", "\x00", "\xff", "\r"} {
		checkSplit(t, strings.Repeat(c, 8192))
		if l, at, e := line.Split(strings.Repeat(c, 8193)); l != nil || at != 0 || e != api.ErrSize {
			t.Errorf("Split of 8193 %q is %v, %d, %d", c, l, at, e)
		}
	}
	for _, s := range []string{"a\n" + strings.Repeat("b", 8190), strings.Repeat(" ", 8191) + "a", "\"" + strings.Repeat(" ", 8190) + "\"", strings.Repeat("a", 8191) + "\n"} {
		if l, at, e := line.Split(s); len(l) == 0 || at != 0 || e != api.OK {
			t.Error("Split of 8192 bytes", l, at, e)
		}
		checkSplit(t, s)
		checkSplit(t, s+"\n")
	}
	if l, at, e := line.Split("\x00" + strings.Repeat("a", 1<<20)); l != nil || at != 0 || e != api.ErrSize {
		t.Error("Split of a long source", l, at, e)
	}
}

// P6.2: by hand; of any lines, those that no source has too.
func TestJoin(t *testing.T) {
	for _, c := range []struct {
		l    []line.Line
		want string
	}{
		{nil, ""},
		{[]line.Line{}, ""},
		{[]line.Line{{}}, "\n"},
		{[]line.Line{{N: 7}, {N: -1, Fields: []string{}}}, "\n\n"},
		{[]line.Line{{1, []string{"Rule", "A", "x y"}}, {3, []string{"b"}}}, "Rule A \"x y\"\nb\n"},
		{[]line.Line{{9, []string{"b"}}, {2, []string{"a"}}}, "b\na\n"},
		{[]line.Line{{1, []string{""}}}, "\"\"\n"},
		{[]line.Line{{1, []string{"", ""}}}, "\"\" \"\"\n"},
		{[]line.Line{{1, []string{"a", "", "b"}}}, "a \"\" b\n"},
		{[]line.Line{{1, []string{" ", "\t", "#"}}}, "\" \" \"\t\" \"#\"\n"},
		{[]line.Line{{1, []string{" a", "a ", "a#b", "a\tb", "#a"}}}, "\" a\" \"a \" \"a#b\" \"a\tb\" \"#a\"\n"},
		{[]line.Line{{1, []string{"!", "~", "a-b", "'", "\\"}}}, "! ~ a-b ' \\\n"},
		{[]line.Line{{1, []string{"\r", "\n", "\"", "\x00", "\xff", "\u00e9", "\u00a0"}}}, "\r \n \" \x00 \xff \u00e9 \u00a0\n"},
		{[]line.Line{{1, []string{"\" ", "\r#", "\n\t", "\xff ", "\u00e9#"}}}, "\"\" \" \"\r#\" \"\n\t\" \"\xff \" \"\u00e9#\"\n"},
	} {
		if s := line.Join(c.l); s != c.want {
			t.Errorf("Join(%v) is %q, not %q", c.l, s, c.want)
		}
	}
}

// P6.2: no limit of a source holds for what is joined.
func TestJoinMany(t *testing.T) {
	var l []line.Line
	var want strings.Builder
	for i := range 1000 {
		fields := make([]string, 30)
		for j := range fields {
			fields[j] = strconv.Itoa(i + j)
		}
		l = append(l, line.Line{N: i, Fields: fields})
		want.WriteString(strings.Join(fields, " ") + "\n")
	}
	if line.Join(l) != want.String() {
		t.Error("Join of many lines")
	}
}

// P6.2: each byte in a field.
func TestJoinEachByte(t *testing.T) {
	for b := range 256 {
		field := "a" + string([]byte{byte(b)}) + "b"
		want := field + "\n"
		if b == 32 || b == 9 || b == 35 {
			want = "\"" + field + "\"\n"
		}
		if s := line.Join([]line.Line{{N: 1, Fields: []string{field}}}); s != want {
			t.Errorf("Join of %q is %q", field, s)
		}
	}
}

// chance is a source of right lines by chance, always the same.
func chance(r *rand.Rand) string {
	words := []string{"a", "Rule", "2:00s", "\"\"", "\" \"", "\"#\"", "\"x y\"z", "b\"\t\"", "~!", "\"~#!\""}
	blanks := []string{" ", "\t", "\r", "  ", " \t\r"}
	var b strings.Builder
	for range r.Intn(30) {
		for range r.Intn(17) {
			b.WriteString(words[r.Intn(len(words))] + blanks[r.Intn(len(blanks))])
		}
		if r.Intn(3) == 0 {
			b.WriteString("# \"" + words[r.Intn(len(words))])
		}
		b.WriteString("\n")
	}
	return b.String()
}

// P6.3: what is joined is read as it was, and is joined the same again.
func TestBack(t *testing.T) {
	r := rand.New(rand.NewSource(6))
	for range 2000 {
		s := chance(r)
		checkSplit(t, s)
		l, _, e := line.Split(s)
		if e != api.OK {
			continue
		}
		back, _, _ := line.Split(line.Join(l))
		if line.Join(back) != line.Join(l) {
			t.Fatalf("Join of %q", s)
		}
	}
}

// P6.4: what is left out changes nothing, be it there or not, whatever it says.
func TestLeftOut(t *testing.T) {
	lefts := []string{"", "#", "# no", "#\"", "#\"\"", "##", "# \" \r \t", "#a b c d e f g h i j k l m n o p q r", "#" + strings.Repeat("~", 100)}
	r := rand.New(rand.NewSource(7))
	for range 300 {
		s := chance(r)
		want, wantAt, wantErr := line.Split(s)
		for _, left := range lefts {
			more := strings.ReplaceAll(s, "\n", left+"\n") + left
			if len(more) > 8192 {
				continue
			}
			if l, at, e := line.Split(more); !slices.EqualFunc(l, want, same) || at != wantAt || e != wantErr {
				t.Fatalf("Split(%q) is %v, %d, %d", more, l, at, e)
			}
		}
	}
}

// An answer is new memory, each of its lists for itself; a list that is handed in is left as it was.
func TestMemory(t *testing.T) {
	const s = "a b c\n\nd e\nf \"\""
	l, _, _ := line.Split(s)
	kept := line.Join(l)
	for i := range l {
		_ = append(l[i].Fields, "no", "no", "no")
	}
	if line.Join(l) != kept {
		t.Error("lists of an answer share memory", l)
	}
	if kept != "a b c\nd e\nf \"\"\n" || len(l) != 3 || l[2].N != 4 || l[2].Fields[1] != "" {
		t.Error("Join changed its lines", l)
	}
	for i := range l {
		clear(l[i].Fields)
	}
	clear(l)
	checkSplit(t, s)
}
