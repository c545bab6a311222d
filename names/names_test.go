package names_test

import (
	"bytes"
	"math/rand"
	"reflect"
	"slices"
	"strconv"
	"strings"
	"testing"

	"computus/api"
	"computus/comp"
	"computus/names"
	"computus/src"
	"computus/zone"
)

// example is the document's own source.
const example = "Rule EU 1977 1980 - Apr Sun>=1 1:00u 1:00 S\n" +
	"Rule EU 1981 max - Mar lastSun 1:00u 1:00 S\n" +
	"Rule EU 1996 max - Oct lastSun 1:00u 0:00 -\n" +
	"Zone Europe/Berlin 0:53:28 - LMT 1893 Apr 1 0:00\n" +
	"1:00 EU CE%sT\n" +
	"Link Europe/Berlin Berlin\n"

// sourceOf is a source that must be right.
func sourceOf(t *testing.T, s string) src.DB {
	t.Helper()
	db, line, e := src.Parse(s)
	if e != api.OK {
		t.Fatalf("Parse(%q) is %d, %d", s, line, e)
	}
	return db
}

// load is the book of a source, which must be one.
func load(t *testing.T, s string) *names.Book {
	t.Helper()
	b, line, who, e := names.Load(s)
	if b == nil || line != 0 || who != "" || e != api.OK {
		t.Fatalf("Load(%q) is %v, %d, %q, %d", s, b, line, who, e)
	}
	return b
}

// refused is a source that can be read, but of which a zone or a link can not be.
func refused(t *testing.T, s, want string, errno api.Errno) {
	t.Helper()
	if b, who, e := names.Make(sourceOf(t, s)); b != nil || who != want || e != errno {
		t.Errorf("Make of %q is %v, %q, %d, not %q, %d", s, b, who, e, want, errno)
	}
	if b, line, who, e := names.Load(s); b != nil || line != 0 || who != want || e != errno {
		t.Errorf("Load(%q) is %v, %d, %q, %d, not %q, %d", s, b, line, who, e, want, errno)
	}
}

// unknown is a name that no zone and no link of a book has.
func unknown(t *testing.T, b *names.Book, name string) {
	t.Helper()
	if x, e := b.Find(name); e != api.ErrZone || !reflect.DeepEqual(x, comp.Table{}) {
		t.Errorf("Find(%q) is %v, %d", name, x, e)
	}
	if s, e := b.Real(name); e != api.ErrZone || s != "" {
		t.Errorf("Real(%q) is %q, %d", name, s, e)
	}
}

// known is a name of a book, which leads to a table.
func known(t *testing.T, b *names.Book, name string, want comp.Table) {
	t.Helper()
	if x, e := b.Find(name); e != api.OK || !sameTable(x, want) {
		t.Errorf("Find(%q) is %v, %d, not %v", name, x, e, want)
	}
	if s, e := b.Real(name); e != api.OK || s != want.Name {
		t.Errorf("Real(%q) is %q, %d, not %q", name, s, e, want.Name)
	}
}

func sameTable(a, b comp.Table) bool {
	return a.Name == b.Name && a.First == b.First && slices.Equal(a.Trans, b.Trans) && a.Foot == b.Foot
}

func lists(t *testing.T, b *names.Book, count int, want ...string) {
	t.Helper()
	if l := b.All(); !slices.Equal(l, want) || b.Len() != count {
		t.Errorf("All is %q of %d tables, not %q of %d", l, b.Len(), want, count)
	}
}

// P13.1, P13.2: the chapter's own example, by its words.
func TestExample(t *testing.T) {
	b := load(t, example)
	lists(t, b, 2, "Berlin", "Europe/Berlin", "UTC")
	db := sourceOf(t, example)
	berlin, e := comp.Compile(db, db.Zones[0])
	if e != api.OK {
		t.Fatal("Compile", e)
	}
	for _, name := range []string{"BERLIN", "Berlin", "berlin", "Europe/Berlin", "europe/BERLIN"} {
		known(t, b, name, berlin)
	}
	for _, name := range []string{"UTC", "utc", "Utc"} {
		known(t, b, name, zone.UTC())
	}
	for _, name := range []string{"Nowhere", "", "Europe", "Berlin ", " Berlin", "Berli", "Europe/Berlin/", "Europe\\Berlin", "EU", "CET", "\x00", "\xff"} {
		unknown(t, b, name)
	}
}

// P13.1, P13.2: a book of UTC alone.
func TestEmpty(t *testing.T) {
	for _, b := range []*names.Book{names.Empty(), load(t, ""), load(t, "# none\n\n"), load(t, "Rule R 1990 max - Mar 1 0 1:00 S\n")} {
		lists(t, b, 1, "UTC")
		known(t, b, "uTc", zone.UTC())
		unknown(t, b, "Europe/Berlin")
		unknown(t, b, "")
	}
	if b, who, e := names.Make(src.DB{}); b == nil || who != "" || e != api.OK {
		t.Error("Make of nothing is", b, who, e)
	}
}

// P13.2, rules 1 and 7: a book that is not there, and one that nobody made.
func TestNone(t *testing.T) {
	var none *names.Book
	for _, b := range []*names.Book{none, {}} {
		for _, name := range []string{"", "UTC", "utc", "Europe/Berlin"} {
			unknown(t, b, name)
		}
		lists(t, b, 0)
	}
}

// P13.1: UTC is of the source, if a zone or a link has that name, in great letters or small ones.
func TestUTC(t *testing.T) {
	for _, name := range []string{"UTC", "utc", "uTc"} {
		b := load(t, "Zone "+name+" 5:00 - FIVE\n")
		lists(t, b, 1, name)
		known(t, b, "UTC", comp.Table{Name: name, First: api.Tran{Off: 18000, Abbr: "FIVE"}})
		b = load(t, "Link Z "+name+"\nZone Z -1:00 - X\n")
		lists(t, b, 1, name, "Z")
		known(t, b, "utc", comp.Table{Name: "Z", First: api.Tran{Off: -3600, Abbr: "X"}})
		// A link leads to a zone or a link of the source, and UTC that is beside them is none.
		refused(t, "Zone Z 1 - X\nLink "+name+" GMT\n", "GMT", api.ErrName)
		b = load(t, "Link "+name+" GMT\nZone Utc 0 - GMT\n")
		lists(t, b, 1, "GMT", "Utc")
		known(t, b, "gmt", comp.Table{Name: "Utc", First: api.Tran{Abbr: "GMT"}})
	}
	lists(t, load(t, "Zone UT 0 - X\nZone UTC0 0 - X\nZone Etc/UTC 0 - X\n"), 4, "Etc/UTC", "UT", "UTC", "UTC0")
}

// P13.1: the error of the first zone that has one, ahead of all links', and its name as it is written.
func TestZoneErrors(t *testing.T) {
	rules := "Rule R 1990 max - Mar 1 0 1:00 S\nRule R 1990 max - Apr 1 0 0 -\n" +
		"Rule Q 1990 1999 - Mar 1 0 1:00 S\nRule Q 1990 1999 - Mar 1 0 0 -\n"
	right, order, tail, fires := "Zone Right 1 - X\n", "Zone ORDER 1 - X 1990\n2 - Y 1980\n3 - Z\n", "Zone Tail 1 R X\n", "Zone Fires 1 Q X\n"
	cases := []struct {
		s, who string
		e      api.Errno
	}{
		{right + order, "ORDER", api.ErrOrder},
		{order + right, "ORDER", api.ErrOrder},
		{rules + right + tail, "Tail", api.ErrTail},
		{rules + tail + order, "Tail", api.ErrTail},
		{rules + order + tail, "ORDER", api.ErrOrder},
		{rules + fires + order, "Fires", api.ErrOrder},
		{rules + order + fires, "ORDER", api.ErrOrder},
		{"Link Nowhere A\nLink B B\n" + rules + tail, "Tail", api.ErrTail},
		{"Link B B\nLink Nowhere A\n" + right + order, "ORDER", api.ErrOrder},
		{rules + tail + "Link tail Other\n", "Tail", api.ErrTail},
	}
	for _, c := range cases {
		refused(t, c.s, c.who, c.e)
	}
	// Of a source that Parse never told.
	if b, who, e := names.Make(src.DB{Zones: []src.Zone{{Name: "None"}}}); b != nil || who != "None" || e != api.ErrArg {
		t.Error("Make of a zone without eras is", b, who, e)
	}
}

// P13.1: the error of the first link that has one, and its name as it is written.
func TestLinkErrors(t *testing.T) {
	zone := "Zone Z 1 - X\n"
	cases := []struct {
		s, who string
		e      api.Errno
	}{
		{"Link A B\n", "B", api.ErrName},
		{"Link A A\n", "A", api.ErrLoop},
		{"Link a A\n", "A", api.ErrLoop},
		{"Link A B\nLink B A\n", "B", api.ErrLoop},
		{"Link b A\nLink a B\n", "A", api.ErrLoop},
		{"Link A B\nLink B C\nLink C A\n", "B", api.ErrLoop},
		// Ahead of a ring, and of a link that leads to nothing.
		{"Link A First\nLink A A\n", "First", api.ErrLoop},
		{"Link B First\nLink A B\nLink B A\n", "First", api.ErrLoop},
		{"Link A Last\nLink Nowhere A\n", "Last", api.ErrName},
		{"Link A B\nLink B C\nLink Nowhere A\n", "B", api.ErrName},
		// One behind the other, the first one that has an error tells it.
		{"Link Nowhere A\nLink B B\n", "A", api.ErrName},
		{"Link B B\nLink Nowhere A\n", "B", api.ErrLoop},
		{"Link Z Y\nLink Nowhere A\nLink B B\n" + zone, "A", api.ErrName},
		{"Link Z Y\nLink B B\nLink Nowhere A\n" + zone, "B", api.ErrLoop},
		{zone + "Link Z Y\nLink Y X\nLink X W\nLink V U\n", "U", api.ErrName},
		// What is nearly the same is another name.
		{zone + "Link ZZ Y\n", "Y", api.ErrName},
		{"Zone Zone/Z 1 - X\nLink Zone Y\n", "Y", api.ErrName},
		{"Zone Zone/Z 1 - X\nLink Z Y\n", "Y", api.ErrName},
		{"Rule R 1990 max - Mar 1 0 1:00 S\nZone Z 1 R X\nLink R Y\n", "Y", api.ErrName},
	}
	for _, c := range cases {
		refused(t, c.s, c.who, c.e)
	}
}

// chain is so many links, one leading to the other, the last one to a name.
func chain(n int, end string) []string {
	var l []string
	for i := range n {
		to := "L" + strconv.Itoa(i+1)
		if i == n-1 {
			to = end
		}
		l = append(l, "Link "+to+" L"+strconv.Itoa(i)+"\n")
	}
	return l
}

// P13.1: as many links as there may be, one leading to the other, in any order.
func TestChains(t *testing.T) {
	r := rand.New(rand.NewSource(13))
	want := comp.Table{Name: "Z", First: api.Tran{Off: 3600, Abbr: "X"}}
	for n := 1; n <= api.MaxLinks; n++ {
		for turn := range 8 {
			l, lost, ring, late := chain(n, "z"), chain(n, "Nowhere"), chain(n, "l0"), chain(n, "L"+strconv.Itoa(n-1))
			switch turn {
			case 0:
			case 1:
				for _, x := range [][]string{l, lost, ring, late} {
					slices.Reverse(x)
				}
			default:
				for _, x := range [][]string{l, lost, ring, late} {
					r.Shuffle(n, func(i, j int) { x[i], x[j] = x[j], x[i] })
				}
			}
			b := load(t, "Zone Z 1 - X\n"+strings.Join(l, ""))
			for i := range n {
				known(t, b, "L"+strconv.Itoa(i), want)
			}
			if len(b.All()) != n+2 || b.Len() != 2 {
				t.Error("All is", b.All(), b.Len())
			}
			first := func(l []string) string { return strings.Fields(l[0])[2] }
			refused(t, "Zone Z 1 - X\n"+strings.Join(lost, ""), first(lost), api.ErrName)
			refused(t, "Zone Z 1 - X\n"+strings.Join(ring, ""), first(ring), api.ErrLoop)
			refused(t, "Zone Z 1 - X\n"+strings.Join(late, ""), first(late), api.ErrLoop)
		}
	}
}

// P13.1: what Parse tells of a source that can not be read.
func TestLoad(t *testing.T) {
	sources := []string{"x", "x\n", "\n\nZone A 1 - X\nZone a 1 - X\n", "Zone A 1 R X\n", "Zone A 1 - X 1990\n", "Link A\n", "Zone A 1 - X\nLink A A\n",
		"# x\nLink A A\nLink A a\n", strings.Repeat("a", 8193), "\xff", "Zone A 1 - \"X\n", strings.Repeat("Zone A 1 - X\n", 401),
		// Ahead of what Make would tell.
		"Link A A\nZone B 1 - X 1990\n2 - Y 1980\n3 - Z\nx\n"}
	for _, s := range sources {
		_, n, e := src.Parse(s)
		if e == api.OK {
			t.Fatalf("%q is a source", s)
		}
		if b, line, who, got := names.Load(s); b != nil || line != n || who != "" || got != e {
			t.Errorf("Load(%q) is %v, %d, %q, %d, not %d, %d", s, b, line, who, got, n, e)
		}
	}
	b, line, who, e := names.Load("Zone A 1 - X\n\nLink A a\n")
	if b != nil || line != 3 || who != "" || e != api.ErrName {
		t.Error("Load is", b, line, who, e)
	}
}

// P13.2: names are in the order of their small letters, byte by byte.
func TestOrder(t *testing.T) {
	written := []string{"AZb", "A_b", "Aab", "a0", "B", "b+", "b-", "B/", "b0", "BA", "b_", "c", "Cc", "cC/c", "Z", "zz"}
	s := ""
	for _, name := range written {
		s += "Zone " + name + " 1 - X\n"
	}
	// 95, that of _, is behind Z and ahead of a.
	lists(t, load(t, s), 17, "a0", "A_b", "Aab", "AZb", "B", "b+", "b-", "B/", "b0", "b_", "BA", "c", "Cc", "cC/c", "UTC", "Z", "zz")
	s = "Zone m 1 - X\n"
	for _, name := range written {
		s += "Link M " + name + "\n"
	}
	lists(t, load(t, s), 2, "a0", "A_b", "Aab", "AZb", "B", "b+", "b-", "B/", "b0", "b_", "BA", "c", "Cc", "cC/c", "m", "UTC", "Z", "zz")
}

// P13.4: just A to Z and a to z are the same letters.
func TestLetters(t *testing.T) {
	b := load(t, "Zone Kk/S_s-I+1 1 - X\nLink kK/s_S-i+1 K\n")
	want := comp.Table{Name: "Kk/S_s-I+1", First: api.Tran{Off: 3600, Abbr: "X"}}
	for _, name := range []string{"KK/S_S-I+1", "kk/s_s-i+1", "kK/s_S-I+1", "k", "K"} {
		known(t, b, name, want)
	}
	// The sign of Kelvin is a k in Unicode's small letters, and the long s an S in its great ones.
	for _, name := range []string{"\u212a", "K\u212a/S_s-I+1", "Kk/\u017f_s-I+1", "Kk/S_s-\u0131+1", "Kk/S_s-\u0130+1", "Kk/S_s\rI+1", "Kk/S\x7fs-I+1", "\x0b", "+", "kk/s_s-i-1"} {
		unknown(t, b, name)
	}
}

// anySource is some zones and links, not all of which lead to a zone.
func anySource(r *rand.Rand) string {
	pool := strings.Fields("UTC A b C d A/B a_B a-b aB+1 AA Ab c/D utc2 Europe/Berlin Zulu Etc/UTC x Y z")
	r.Shuffle(len(pool), func(i, j int) { pool[i], pool[j] = pool[j], pool[i] })
	var l []string
	zones, links := r.Intn(5), r.Intn(9)
	for i, name := range pool[:zones+links] {
		if i < zones {
			l = append(l, "Zone "+anyCase(r, name)+" "+[]string{
				"0:53:28 - LMT 1893 Apr 1\n1:00 EU CE%sT\n", "1 - X\n", "-5 US E%sT\n", "2 - A 1950\n3 EU B%s\n",
				"0:53:28 - LMT 1893 Apr 1\n1:00 EU CE%sT\n", "1 - X\n", "-5 US E%sT\n", "1 - X 1990\n1 - Y 1980\n2 - Z\n", "1 BAD %z\n"}[r.Intn(9)])
			continue
		}
		to := pool[r.Intn(min(len(pool), zones+links+r.Intn(2)))]
		if r.Intn(3) > 0 && zones > 0 {
			to = pool[r.Intn(zones)]
		}
		l = append(l, "Link "+anyCase(r, to)+" "+anyCase(r, name)+"\n")
	}
	r.Shuffle(len(l), func(i, j int) { l[i], l[j] = l[j], l[i] })
	return "Rule EU 1981 max - Mar lastSun 1:00u 1:00 S\nRule EU 1996 max - Oct lastSun 1:00u 0 -\n" +
		"Rule US 1967 2006 - Oct lastSun 2:00 0 S\nRule US 1967 1973 - Apr lastSun 2:00 1:00 D\nRule US 1976 1986 - Apr lastSun 2:00 1:00 D\n" +
		"Rule US 2007 max - Mar Sun>=8 2:00 1:00 D\nRule US 2007 max - Nov Sun>=1 2:00 0 S\n" +
		"Rule BAD 1990 max - Mar 1 0 1:00 S\nRule BAD 1990 max - Apr 1 0 0 -\n" + strings.Join(l, "")
}

// anyCase is a name with some letters as great ones, and some as small ones.
func anyCase(r *rand.Rand, name string) string {
	b := []byte(name)
	for i, c := range b {
		if c |= 32; c >= 'a' && c <= 'z' && r.Intn(3) == 0 {
			b[i] ^= 32
		}
	}
	return string(b)
}

// wanted is what the chapter's words tell of a source: the table of each name, or an error.
type wanted struct {
	tables map[string]comp.Table
	all    []string
	count  int
	who    string
	e      api.Errno
}

func want(db src.DB) wanted {
	w := wanted{tables: map[string]comp.Table{}, count: len(db.Zones)}
	for _, z := range db.Zones {
		x, e := comp.Compile(db, z)
		if e != api.OK {
			return wanted{who: z.Name, e: e}
		}
		w.tables[z.Name] = x
		w.all = append(w.all, z.Name)
	}
	for _, l := range db.Links {
		x, e := end(db, w.tables, l, nil)
		if e != api.OK {
			return wanted{who: l.Name, e: e}
		}
		w.tables[l.Name] = x
		w.all = append(w.all, l.Name)
	}
	if !slices.ContainsFunc(w.all, func(s string) bool { return strings.EqualFold(s, "UTC") }) {
		w.tables["UTC"] = comp.Table{Name: "UTC", First: api.Tran{Abbr: "UTC"}}
		w.all = append(w.all, "UTC")
		w.count++
	}
	slices.SortFunc(w.all, func(a, b string) int {
		return bytes.Compare(bytes.ToLower([]byte(a)), bytes.ToLower([]byte(b)))
	})
	return w
}

// end is the zone to which a link leads, if it has led through those links.
func end(db src.DB, tables map[string]comp.Table, l src.Link, ahead []string) (comp.Table, api.Errno) {
	if slices.Contains(ahead, l.Name) {
		return comp.Table{}, api.ErrLoop
	}
	for _, z := range db.Zones {
		if strings.EqualFold(z.Name, l.To) {
			return tables[z.Name], api.OK
		}
	}
	for _, next := range db.Links {
		if strings.EqualFold(next.Name, l.To) {
			return end(db, tables, next, append(ahead, l.Name))
		}
	}
	return comp.Table{}, api.ErrName
}

// P13.1 to P13.4: many sources, against the chapter's words.
func TestMany(t *testing.T) {
	r := rand.New(rand.NewSource(1313))
	counts := map[api.Errno]int{}
	for range 3000 {
		s := anySource(r)
		w := want(sourceOf(t, s))
		counts[w.e]++
		if w.e != api.OK {
			refused(t, s, w.who, w.e)
			continue
		}
		checkBook(t, r, load(t, s), w)
		if t.Failed() {
			t.Fatal("of the source", s)
		}
	}
	for _, e := range []api.Errno{api.OK, api.ErrOrder, api.ErrTail, api.ErrName, api.ErrLoop} {
		if counts[e] < 50 {
			t.Error("too few sources that are told", e, counts)
		}
	}
}

func checkBook(t *testing.T, r *rand.Rand, b *names.Book, w wanted) {
	t.Helper()
	lists(t, b, w.count, w.all...)
	for _, name := range b.All() {
		for _, s := range []string{name, strings.ToUpper(name), strings.ToLower(name), anyCase(r, name)} {
			known(t, b, s, w.tables[name])
		}
		x, _ := b.Find(name)
		if !zone.Right(x) {
			t.Error("the table of", name, "can not be", x)
		}
		own, _ := b.Real(name)
		if y, e := b.Find(own); e != api.OK || !zone.Right(y) || !sameTable(x, y) || !slices.Contains(b.All(), own) {
			t.Error("the zone of", name, "is", own, y, e)
		}
	}
	unknown(t, b, "Nowhere")
}

// P13.1: as many zones and links as there may be.
func TestMost(t *testing.T) {
	s := ""
	var all []string
	for i := range api.MaxZones {
		s += "Zone Z" + string(rune('a'+i)) + " " + strconv.Itoa(i-8) + " - X\n"
		all = append(all, "Z"+string(rune('a'+i)))
	}
	for i := range api.MaxLinks {
		s += "Link z" + string(rune('A'+i)) + " A" + string(rune('a'+i)) + "\n"
	}
	b := load(t, s)
	if b.Len() != api.MaxZones+1 || len(b.All()) != api.MaxZones+api.MaxLinks+1 {
		t.Error("a book of", b.Len(), b.All())
	}
	for i, name := range all {
		want := comp.Table{Name: name, First: api.Tran{Off: int64(i-8) * 3600, Abbr: "X"}}
		known(t, b, name, want)
		known(t, b, "a"+name[1:], want)
	}
	longest := strings.Repeat("Ab/-+_09", 4)
	known(t, load(t, "Zone "+longest+" 1 - X\n"), strings.ToUpper(longest), comp.Table{Name: longest, First: api.Tran{Off: 3600, Abbr: "X"}})
	unknown(t, load(t, "Zone "+longest+" 1 - X\n"), longest+"a")
	unknown(t, load(t, "Zone "+longest+" 1 - X\n"), strings.Repeat(longest, 1<<12))
}

// Rules 4 and 5: what is written into an answer, or into the source, is seen by no later answer.
func TestOwnMemory(t *testing.T) {
	db := sourceOf(t, example)
	b, _, e := names.Make(db)
	if e != api.OK {
		t.Fatal("Make", e)
	}
	want := sourceOf(t, example)
	if !reflect.DeepEqual(db, want) {
		t.Error("the source is changed", db)
	}
	berlin, _ := comp.Compile(want, want.Zones[0])
	db.Rules[0], db.Zones[0].Eras[0], db.Zones[0], db.Links[0] = src.Rule{}, src.Era{}, src.Zone{}, src.Link{}
	known(t, b, "Berlin", berlin)
	lists(t, b, 2, "Berlin", "Europe/Berlin", "UTC")
	x, _ := b.Find("Berlin")
	y, _ := b.Find("Europe/Berlin")
	x.Trans[0], x.Trans[1].Off = api.Tran{}, 7
	_ = append(x.Trans[:1], api.Tran{})
	if !sameTable(y, berlin) {
		t.Error("answers share memory", y)
	}
	known(t, b, "Berlin", berlin)
	known(t, b, "Europe/Berlin", berlin)
	l, m := b.All(), b.All()
	l[0], l[1] = "x", "y"
	_ = append(l[:1], "z")
	if !slices.Equal(m, []string{"Berlin", "Europe/Berlin", "UTC"}) {
		t.Error("answers share memory", m)
	}
	lists(t, b, 2, "Berlin", "Europe/Berlin", "UTC")
	// Books have nothing to do with each other.
	other := load(t, "Zone Berlin 3 - X\n")
	known(t, b, "Berlin", berlin)
	known(t, other, "Berlin", comp.Table{Name: "Berlin", First: api.Tran{Off: 10800, Abbr: "X"}})
	unknown(t, names.Empty(), "Berlin")
}

// Rule 6: what is answered does not hang on a map's order.
func TestAgain(t *testing.T) {
	first := load(t, example+"Link Berlin X\nLink x Y\nZone Q 1 - X\n").All()
	for range 50 {
		b := load(t, example+"Link Berlin X\nLink x Y\nZone Q 1 - X\n")
		if !slices.Equal(b.All(), first) || !slices.Equal(b.All(), first) {
			t.Fatal("All is", b.All(), "and was", first)
		}
	}
}

// Rule 1: a source that Parse never told ends, too.
func TestAnythingEnds(t *testing.T) {
	link := func(to, name string) src.Link { return src.Link{To: to, Name: name} }
	plain := func(name string) src.Zone { return src.Zone{Name: name, Eras: []src.Era{{Format: "X"}}} }
	sources := []src.DB{
		{Links: []src.Link{{}}},
		{Links: []src.Link{link("", ""), link("", "A")}},
		{Links: []src.Link{link("A", "A"), link("B", "A"), link("A", "B")}},
		{Zones: []src.Zone{plain("A"), plain("a")}, Links: []src.Link{link("A", "A"), link("A", "a"), link("\xff", "\xff")}},
		{Zones: []src.Zone{plain("")}},
		{Zones: []src.Zone{{Name: "A", Eras: []src.Era{{Rule: "None"}}}}},
	}
	for _, db := range sources {
		b, who, e := names.Make(db)
		if (b == nil) == (e == api.OK) || e == api.OK && who != "" {
			t.Error("Make of", db, "is", b, who, e)
		}
		b.All()
		b.Len()
		b.Find("")
		b.Real("A")
	}
}

// P13.1, P3: of any text a book, or just one error.
func FuzzLoad(f *testing.F) {
	for _, s := range []string{example, "Link A B\nLink B A\n", "Link A B\n", "x", "", "Zone utc 1 - X\nLink UTC b\n"} {
		f.Add(s)
	}
	f.Fuzz(func(t *testing.T, s string) {
		b, line, who, e := names.Load(s)
		if (b == nil) == (e == api.OK) || (line != 0 || who != "") && e == api.OK || line != 0 && who != "" {
			t.Fatalf("Load(%q) is %v, %d, %q, %d", s, b, line, who, e)
		}
		if e == api.OK {
			w := want(sourceOf(t, s))
			lists(t, b, w.count, w.all...)
		}
	})
}
