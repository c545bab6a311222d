package blob_test

import (
	"bytes"
	"encoding/binary"
	"encoding/hex"
	"hash/adler32"
	"math"
	"math/rand"
	"reflect"
	"slices"
	"strconv"
	"strings"
	"testing"
	"time"

	"computus/api"
	"computus/blob"
	"computus/comp"
	"computus/foot"
	"computus/src"
	"computus/when"
	"computus/zone"
)

const widest = 57600

// utc is the instant of a time in UTC.
func utc(y int, m time.Month, d, h, min, s int) int64 {
	return time.Date(y, m, d, h, min, s, 0, time.UTC).Unix()
}

func sameTable(a, b comp.Table) bool {
	return a.Name == b.Name && a.First == b.First && slices.Equal(a.Trans, b.Trans) && a.Foot == b.Foot
}

// handmade is a table that can be, with two changes and a foot.
func handmade() comp.Table {
	at := when.At{Sec: 3600, Kind: 'u'}
	return comp.Table{Name: "X/y-1", First: api.Tran{Off: -100, Abbr: "A"},
		Trans: []api.Tran{{At: -1000000, Off: 200, Abbr: "BBB"}, {At: 1000000, Off: -300, Dst: true, Abbr: ""}},
		Foot: comp.Foot{Has: true, From: utc(2000, 3, 26, 1, 0, 0), Off: -7200,
			A: comp.Half{Month: 3, On: when.On{Kind: 1}, At: at, Save: 3600, Abbr: "S%"},
			B: comp.Half{Month: 10, On: when.On{Kind: 2, Wd: 6, N: 31}, At: when.At{Sec: 86400, Kind: 'w'}, Abbr: "W"}}}
}

// spelt is a table's bytes by the chapter's words, whether it can be or not.
func spelt(x comp.Table) []byte {
	var b []byte
	number := func(n int64) { b = binary.BigEndian.AppendUint64(b, uint64(n)) }
	flag := func(is bool) { b = append(b, map[bool]byte{true: 1}[is]) }
	text := func(s string) { b = append(append(b, byte(len(s))), s...) }
	stand := func(s api.Tran) { number(s.Off); flag(s.Dst); text(s.Abbr) }
	half := func(h comp.Half) {
		for _, n := range []int64{h.Month, int64(h.On.Kind), h.On.Wd, h.On.N, h.At.Sec} {
			number(n)
		}
		b = append(b, h.At.Kind)
		number(h.Save)
		text(h.Abbr)
	}
	b = append(b, "TZ40"...)
	text(x.Name)
	stand(x.First)
	number(int64(len(x.Trans)))
	for _, s := range x.Trans {
		number(s.At)
		stand(s)
	}
	flag(x.Foot.Has)
	if x.Foot.Has {
		number(x.Foot.From)
		number(x.Foot.Off)
		half(x.Foot.A)
		half(x.Foot.B)
	}
	return mended(append(b, 0, 0, 0, 0))
}

// mended is bytes with the sum behind them that is right.
func mended(b []byte) []byte {
	body := b[:len(b)-4]
	return binary.BigEndian.AppendUint32(slices.Clone(body), adler32.Checksum(body))
}

// back is a table that is the same as bytes and back, and its bytes.
func back(t *testing.T, x comp.Table) []byte {
	t.Helper()
	b, e := blob.Put(x)
	if e != api.OK || !bytes.Equal(b, spelt(x)) {
		t.Fatalf("Put of %v is %x, %d, not %x", x, b, e, spelt(x))
	}
	y, e := blob.Get(b)
	if e != api.OK || !sameTable(x, y) {
		t.Fatalf("Get of Put of %v is %v, %d", x, y, e)
	}
	if again, e := blob.Put(y); e != api.OK || !bytes.Equal(again, b) {
		t.Fatalf("Put of Get of %x is %x, %d", b, again, e)
	}
	return b
}

// refused is bytes of which no table comes.
func refused(t *testing.T, b []byte, want api.Errno, what ...any) {
	t.Helper()
	if x, e := blob.Get(b); e != want || !reflect.DeepEqual(x, comp.Table{}) {
		t.Errorf("Get(%x) is %v, %d, not %d: %v", b, x, e, want, what)
	}
}

// canNot is a table that is not written.
func canNot(t *testing.T, x comp.Table, what ...any) {
	t.Helper()
	if b, e := blob.Put(x); b != nil || e != api.ErrArg {
		t.Errorf("Put of %v is %x, %d: %v", x, b, e, what)
	}
}

// P14.1: sums by hand, and against another one's.
func TestSum(t *testing.T) {
	for s, want := range map[string]uint32{"": 1, "a": 0x00620062, "abc": 0x024d0127, "\x00": 0x00010001, "\x00\x00": 0x00020001, "\xff": 0x01000100,
		"message digest": 0x29750586, strings.Repeat("\xff", 256): 0x0800ff01, strings.Repeat("\xff", 257): 0x080f000f, strings.Repeat("\x01", 65520): 0x00010000 * (65520 * 65523 / 2 % 65521)} {
		if got := blob.Sum([]byte(s)); got != want {
			t.Errorf("Sum of %d bytes is %x, not %x", len(s), got, want)
		}
	}
	if blob.Sum(nil) != 1 {
		t.Error("Sum of nil is", blob.Sum(nil))
	}
	r := rand.New(rand.NewSource(14))
	for n := range 3000 {
		b := make([]byte, n)
		switch n % 3 {
		case 0:
			r.Read(b)
		case 1:
			for i := range b {
				b[i] = 255
			}
		default:
			b[r.Intn(n)] = 1
		}
		if got := blob.Sum(b); got != adler32.Checksum(b) {
			t.Errorf("Sum of %x is %x, not %x", b, got, adler32.Checksum(b))
		}
	}
	for _, n := range []int{5551, 5552, 5553, 5554, 65521, 1 << 20} {
		if b := bytes.Repeat([]byte{255}, n); blob.Sum(b) != adler32.Checksum(b) {
			t.Errorf("Sum of %d bytes is %x", n, blob.Sum(b))
		}
	}
}

// P14.2: the bytes of UTC, and of a table with all that there may be, by hand.
func TestBytes(t *testing.T) {
	number := func(s string) string { return strings.Repeat("0", 16-len(s)) + s }
	below := func(s string) string { return strings.Repeat("f", 16-len(s)) + s }
	head := "545a3430"
	utcBytes := head + "03555443" + number("0") + "00" + "03555443" + number("0") + "00"
	first := head + "05582f792d31" + below("9c") + "00" + "0141" + number("2")
	trans := below("f0bdc0") + number("c8") + "00" + "03424242" + number("f4240") + below("fed4") + "01" + "00"
	from := number("38dd6110") + below("e3e0")
	a := number("3") + number("1") + number("0") + number("0") + number("e10") + "75" + number("e10") + "025325"
	b := number("a") + number("2") + number("6") + number("1f") + number("15180") + "77" + number("0") + "0157"
	whole := first + trans + "01" + from + a + b
	for spelling, x := range map[string]comp.Table{utcBytes: zone.UTC(), whole: handmade()} {
		want, err := hex.DecodeString(spelling)
		if err != nil {
			t.Fatal(err)
		}
		want = mended(append(want, 0, 0, 0, 0))
		got, e := blob.Put(x)
		if e != api.OK || !bytes.Equal(got, want) {
			t.Errorf("Put of %v is\n%x, %d, not\n%x", x, got, e, want)
		}
		if y, e := blob.Get(want); e != api.OK || !sameTable(x, y) {
			t.Errorf("Get(%x) is %v, %d", want, y, e)
		}
	}
	if b := back(t, zone.UTC()); len(b) != 34 {
		t.Errorf("UTC has %d bytes", len(b))
	}
}

// far is so many changes that rise.
func far(n int) []api.Tran {
	l := make([]api.Tran, n)
	for i := range l {
		l[i] = api.Tran{At: int64(i), Off: int64(i % 100), Dst: i%3 == 0, Abbr: strings.Repeat("a", i%33)}
	}
	return l
}

// P14.2, P14.3: tables that can be, at each bound.
func TestRight(t *testing.T) {
	long := strings.Repeat("\xff", 32)
	for _, change := range []func(x *comp.Table){
		func(x *comp.Table) {},
		func(x *comp.Table) { x.Name = "a" },
		func(x *comp.Table) { x.Name = strings.Repeat("Z", 32) },
		func(x *comp.Table) { x.First = api.Tran{Off: widest, Dst: true} },
		func(x *comp.Table) { x.First = api.Tran{Off: -widest, Abbr: long} },
		func(x *comp.Table) { x.First.Abbr = "\x00" },
		func(x *comp.Table) { x.Trans = nil },
		func(x *comp.Table) { x.Trans = []api.Tran{} },
		func(x *comp.Table) { x.Trans[0].Off, x.Trans[1].Off = widest, -widest },
		func(x *comp.Table) { x.Trans[0].Abbr, x.Trans[1].Abbr = long, long },
		func(x *comp.Table) { x.Trans[0].At = -1 << 50 },
		func(x *comp.Table) { x.Trans[0].At = 999999 },
		func(x *comp.Table) { x.Trans[1].At, x.Foot = 1<<50, comp.Foot{} },
		func(x *comp.Table) { x.Trans[1] = x.Trans[0]; x.Trans[1].At++ },
		func(x *comp.Table) { x.Trans = far(255) },
		func(x *comp.Table) { x.Trans = far(256) },
		func(x *comp.Table) { x.Trans = far(257) },
		func(x *comp.Table) { x.Trans = far(4095) },
		func(x *comp.Table) { x.Trans = far(4096) },
		func(x *comp.Table) { x.Trans, x.Foot = far(4096), comp.Foot{} },
		func(x *comp.Table) { x.Foot = comp.Foot{} },
		func(x *comp.Table) { x.Foot.A.Abbr, x.Foot.B.Abbr = long, "" },
		func(x *comp.Table) { x.Foot.A.Abbr, x.Foot.B.Abbr = "", long },
		func(x *comp.Table) { x.Foot.From = utc(2001, 3, 25, 1, 0, 0) },
		func(x *comp.Table) { x.Foot.From, x.Trans = utc(1800, 3, 30, 1, 0, 0), nil },
		func(x *comp.Table) { x.Foot.From = utc(2110, 3, 30, 1, 0, 0) },
	} {
		x := handmade()
		change(&x)
		back(t, x)
	}
}

// P14.2: tables that are not written, and the bytes that would say them.
func TestWrong(t *testing.T) {
	long := strings.Repeat("a", 33)
	for i, change := range []func(x *comp.Table){
		func(x *comp.Table) { *x = comp.Table{} },
		func(x *comp.Table) { x.Name = "" },
		func(x *comp.Table) { x.Name = long },
		func(x *comp.Table) { x.Name = "1a" },
		func(x *comp.Table) { x.Name = "a b" },
		func(x *comp.Table) { x.Name = "a\x00" },
		func(x *comp.Table) { x.Name = "ä" },
		func(x *comp.Table) { x.Name = "\xff" },
		func(x *comp.Table) { x.First.Abbr = long },
		func(x *comp.Table) { x.Trans[0].Abbr = long },
		func(x *comp.Table) { x.Trans[1].Abbr = long },
		func(x *comp.Table) { x.Foot.A.Abbr = long },
		func(x *comp.Table) { x.Foot.B.Abbr = long },
		func(x *comp.Table) { x.Foot.B.Abbr = strings.Repeat(long, 7) },
		func(x *comp.Table) { x.First.Off = widest + 1 },
		func(x *comp.Table) { x.First.Off = -widest - 1 },
		func(x *comp.Table) { x.Trans[1].Off = widest + 1 },
		func(x *comp.Table) { x.Trans[0].Off = math.MinInt64 },
		func(x *comp.Table) { x.Trans[1].At = x.Trans[0].At },
		func(x *comp.Table) { x.Trans[1].At = x.Trans[0].At - 1 },
		func(x *comp.Table) { x.Trans[0].At = -1<<50 - 1 },
		func(x *comp.Table) { x.Trans[1].At, x.Foot = 1<<50+1, comp.Foot{} },
		func(x *comp.Table) { x.Trans[1].At = x.Foot.From },
		func(x *comp.Table) { x.Trans = far(4097) },
		func(x *comp.Table) { x.Trans = far(5000) },
		func(x *comp.Table) { x.Foot.From++ },
		func(x *comp.Table) { x.Foot.From = utc(2111, 3, 29, 1, 0, 0) },
		func(x *comp.Table) { x.Foot.Off = 50401 },
		func(x *comp.Table) { x.Foot.A.Month = 0 },
		func(x *comp.Table) { x.Foot.A.Month = 13 },
		func(x *comp.Table) { x.Foot.A.Month = 9 },
		func(x *comp.Table) { x.Foot.A.On.Kind = 4 },
		func(x *comp.Table) { x.Foot.A.On.Kind = -1 },
		func(x *comp.Table) { x.Foot.A.On.Wd = 7 },
		func(x *comp.Table) { x.Foot.B.On.N = 0 },
		func(x *comp.Table) { x.Foot.A.At.Kind = 0 },
		func(x *comp.Table) { x.Foot.A.At.Kind = 'U' },
		func(x *comp.Table) { x.Foot.A.At.Sec = 86401 },
		func(x *comp.Table) { x.Foot.A.Save = 7201 },
		func(x *comp.Table) { x.Foot.B.Save = -1 },
	} {
		x := handmade()
		change(&x)
		canNot(t, x, i)
		refused(t, spelt(x), api.ErrForm, i)
	}
	// What bytes do not say.
	for i, change := range []func(x *comp.Table){
		func(x *comp.Table) { x.First.At = 1 },
		func(x *comp.Table) { x.First.At = -1 },
		func(x *comp.Table) { x.Foot.Has = false },
		func(x *comp.Table) { x.Foot = comp.Foot{From: 1} },
		func(x *comp.Table) { x.Foot = comp.Foot{B: comp.Half{Abbr: "x"}} },
	} {
		x := handmade()
		change(&x)
		canNot(t, x, i)
	}
}

// P14.2: which error is told first.
func TestErrors(t *testing.T) {
	refused(t, nil, api.ErrShort)
	b := back(t, zone.UTC())
	for n := range 8 {
		refused(t, b[:n], api.ErrShort, n)
		refused(t, make([]byte, n), api.ErrShort, n)
		refused(t, mended(append(slices.Clone(b[:n]), 0, 0, 0, 0))[:min(n+4, 7)], api.ErrShort, n)
	}
	refused(t, make([]byte, 8), api.ErrForm)
	refused(t, mended(make([]byte, 8)), api.ErrForm)
	refused(t, mended([]byte("TZ40....")), api.ErrForm)
	refused(t, []byte("TZ40...."), api.ErrSum)
	refused(t, []byte("TZ40\x00\x00\x00\x01"), api.ErrSum)
	for _, mark := range []string{"TZ41", "TZ4\x00", "tz40", "Tz40", "TZif", "04ZT", " TZ4", "\x00Z40", "T\x0040", "TZ\x000"} {
		wrong := append([]byte(mark), b[4:]...)
		refused(t, wrong, api.ErrForm, mark)
		refused(t, mended(wrong), api.ErrForm, mark)
	}
	for i := range 4 {
		wrong := slices.Clone(b)
		wrong[len(b)-1-i]++
		refused(t, wrong, api.ErrSum, i)
	}
	// The sum's bytes the other way round.
	wrong := slices.Clone(b)
	slices.Reverse(wrong[len(b)-4:])
	refused(t, wrong, api.ErrSum)
	refused(t, append(slices.Clone(b), 0), api.ErrSum)
	refused(t, append(slices.Clone(b), b...), api.ErrSum)
	refused(t, append([]byte{0}, b...), api.ErrForm)
}

// P14.2: bytes that end too early, or too late, or say a thing in another way than it is written.
func TestForms(t *testing.T) {
	for _, x := range []comp.Table{zone.UTC(), handmade()} {
		b := back(t, x)
		for n := 8; n < len(b); n++ {
			refused(t, mended(slices.Clone(b[:n])), api.ErrForm, n)
		}
		for _, more := range [][]byte{{0}, {1}, make([]byte, 4), make([]byte, 8), make([]byte, 1000), b, b[4:]} {
			refused(t, mended(append(slices.Clone(b), more...)), api.ErrForm, len(more))
			refused(t, mended(slices.Concat(b[:len(b)-4], more, make([]byte, 4))), api.ErrForm, len(more))
		}
	}
	// A table that ends in noughts, which are left out.
	x := comp.Table{Name: "Z"}
	b := back(t, x)
	for n := 1; n <= len(b)-8; n++ {
		refused(t, mended(slices.Clone(b[:len(b)-n])), api.ErrForm, n)
	}
	// How many changes there are, said wrongly.
	b = back(t, zone.UTC())
	count := 4 + 4 + 8 + 1 + 4
	for _, n := range []int64{1, 2, 4095, 4096, 4097, -1, math.MaxInt64, math.MinInt64, 1 << 32, 1 << 62} {
		wrong := slices.Clone(b)
		binary.BigEndian.PutUint64(wrong[count:], uint64(n))
		refused(t, mended(wrong), api.ErrForm, n)
	}
	// As many as there may be, and more said.
	x = comp.Table{Name: "UTC", First: api.Tran{Abbr: "UTC"}, Trans: far(4096)}
	b = back(t, x)
	for _, n := range []uint64{4095, 4097, 1 << 63} {
		wrong := slices.Clone(b)
		binary.BigEndian.PutUint64(wrong[count:], n)
		refused(t, mended(wrong), api.ErrForm, n)
	}
}

// P14.2, P14.3: each byte as each other one: bytes are told, or are those of the table that they say.
func TestEachByte(t *testing.T) {
	tables := 0
	for _, x := range []comp.Table{zone.UTC(), handmade()} {
		b := back(t, x)
		for i := range len(b) - 4 {
			for c := range 256 {
				other := slices.Clone(b)
				other[i] = byte(c)
				other = mended(other)
				y, e := blob.Get(other)
				if e != api.OK {
					if e != api.ErrForm || !reflect.DeepEqual(y, comp.Table{}) {
						t.Fatalf("Get(%x) is %v, %d", other, y, e)
					}
					continue
				}
				tables++
				if !bytes.Equal(spelt(y), other) || !zone.Right(y) || !src.Name(y.Name) || sameTable(x, y) != (c == int(b[i])) {
					t.Fatalf("Get(%x) is %v", other, y)
				}
			}
		}
	}
	if tables < 1000 {
		t.Error("too few tables", tables)
	}
	// A flag is 0 or 1.
	b := back(t, zone.UTC())
	for _, at := range []int{4 + 4 + 8, len(b) - 5} {
		for c := 2; c < 256; c++ {
			wrong := slices.Clone(b)
			wrong[at] = byte(c)
			refused(t, mended(wrong), api.ErrForm, at, c)
		}
	}
}

// P14.4: one bit that is turned is told.
func TestOneBit(t *testing.T) {
	for _, x := range []comp.Table{zone.UTC(), handmade(), {Name: "F", Trans: far(60)}} {
		b := back(t, x)
		for bit := range len(b) * 8 {
			want := api.ErrSum
			if bit < 4*8 {
				want = api.ErrForm
			}
			b[bit/8] ^= 1 << (bit % 8)
			refused(t, b, want, bit)
			b[bit/8] ^= 1 << (bit % 8)
		}
	}
}

// anyTable is a table that can be, with a foot or without.
func anyTable(r *rand.Rand) comp.Table {
	abbr := func() string {
		b := make([]byte, r.Intn(33))
		r.Read(b)
		return string(b)
	}
	off := func() int64 { return r.Int63n(2*widest+1) - widest }
	x := comp.Table{Name: "N" + strings.Repeat("/a", r.Intn(16)), First: api.Tran{Off: off(), Dst: r.Intn(2) == 0, Abbr: abbr()}}
	at := utc(1800, 1, 1, 0, 0, 0)
	for range r.Intn([]int{1, 4, 20, 60}[r.Intn(4)]) {
		at += 1 + r.Int63n(10000000)
		x.Trans = append(x.Trans, api.Tran{At: at, Off: off(), Dst: r.Intn(2) == 0, Abbr: abbr()})
	}
	if r.Intn(3) == 0 {
		return x
	}
	half := func(month int64) comp.Half {
		return comp.Half{Month: month, On: when.On{Kind: r.Intn(4), Wd: r.Int63n(7), N: r.Int63n(28) + 1},
			At: when.At{Sec: r.Int63n(86401), Kind: "wsu"[r.Intn(3)]}, Save: r.Int63n(7201) * r.Int63n(2), Abbr: abbr()}
	}
	m := r.Int63n(12)
	x.Foot = comp.Foot{Has: true, Off: r.Int63n(100801) - 50400, A: half(m + 1), B: half((m+2+r.Int63n(9))%12 + 1)}
	next, _ := foot.Next(x.Foot, at)
	x.Foot.From = next.At
	return x
}

// P14.3, P14.4: many tables.
func TestMany(t *testing.T) {
	r := rand.New(rand.NewSource(1414))
	feet, others := 0, 0
	for range 3000 {
		x := anyTable(r)
		if !zone.Right(x) {
			others++
			canNot(t, x)
			refused(t, spelt(x), api.ErrForm)
			continue
		}
		if x.Foot.Has {
			feet++
		}
		b := back(t, x)
		bit := r.Intn(len(b) * 8)
		b[bit/8] ^= 1 << (bit % 8)
		if _, e := blob.Get(b); e != api.ErrSum && (e != api.ErrForm || bit >= 32) {
			t.Fatalf("Get(%x) is %d", b, e)
		}
		b = mended(b)
		if y, e := blob.Get(b); e == api.OK && !bytes.Equal(spelt(y), b) || e != api.OK && e != api.ErrForm {
			t.Fatalf("Get(%x) is %v, %d", b, y, e)
		}
	}
	if feet < 500 || others > 1500 {
		t.Error("too few tables of a kind", feet, others)
	}
}

// anySource is a source of one zone, whose last era's rules may go on for ever.
func anySource(r *rand.Rand) string {
	pick := func(l ...string) string { return l[r.Intn(len(l))] }
	on := func() string {
		day, n := pick("Sun", "Mon", "Tue", "Wed", "Thu", "Fri", "Sat"), strconv.Itoa(r.Intn(31)+1)
		return pick(n, "last"+day, day+">="+n, day+"<="+n)
	}
	at := func() string { return pick("0", "1:00", "24:00", "3:12:07") + pick("", "s", "u") }
	s, y := "", 1800+r.Intn(250)
	for n := r.Intn(4); n >= 0 && y < 2100; n-- {
		to := min(2100, y+r.Intn(50))
		end := strconv.Itoa(to)
		if n == 0 && r.Intn(5) > 0 {
			end = "max"
		}
		rule := "Rule R " + strconv.Itoa(y) + " " + end + " - "
		s += rule + pick("Feb", "Mar", "Apr") + " " + on() + " " + at() + " " + pick("1:00", "0:30", "2:00") + " Summer12\n"
		s += rule + pick("Aug", "Sep", "Oct") + " " + on() + " " + at() + " " + pick("0", "0:20") + " " + pick("-", "W") + "\n"
		y = to + 1
	}
	s += "Zone " + pick("Z", "Europe/Berlin", "N"+strings.Repeat("x", 31)) + " "
	y = 1800 + r.Intn(150)
	for n := r.Intn(4); n >= 0; n-- {
		s += pick("1", "0", "-3:30", "14", "-14", "5:53:28") + " " + pick("-", "1:00", "R", "R", "R") + " "
		s += pick("X", "%z", "G/H", "%s"+strings.Repeat("y", 22), strings.Repeat("y", 22)+"%z")
		if n > 0 {
			y = min(2100, y+1+r.Intn(60))
			s += " " + strconv.Itoa(y) + " " + pick("Jan", "Jun", "Dec") + " " + on() + " " + at()
		}
		s += "\n"
	}
	return s
}

// P14.5, P2: of a source's zones tables are the same behind Put and Get, and say the same.
func TestSources(t *testing.T) {
	r := rand.New(rand.NewSource(145))
	feet, plain := 0, 0
	for range 2000 {
		s := anySource(r)
		db, _, e := src.Parse(s)
		if e != api.OK {
			t.Fatalf("Parse(%q) is %d", s, e)
		}
		x, e := comp.Compile(db, db.Zones[0])
		if e != api.OK {
			continue
		}
		if x.Foot.Has {
			feet++
		} else {
			plain++
		}
		y, e := blob.Get(back(t, x))
		if e != api.OK {
			t.Fatalf("Get of %q is %d", s, e)
		}
		for range 5 {
			at := utc(1790+r.Intn(r.Intn(1000)+1), 1, 1, 0, 0, 0) + r.Int63n(1<<25)
			got, e := zone.At(y, at)
			want, _ := comp.Direct(db, db.Zones[0], at)
			if got.At = 0; e != api.OK || got != want {
				t.Fatalf("At of %q at %d is %v, %d, not %v", s, at, got, e, want)
			}
		}
	}
	if feet < 300 || plain < 200 {
		t.Error("too few tables of a kind", feet, plain)
	}
}

// Rules 4 and 5: nothing that is handed in is changed or kept, and answers share no memory.
func TestOwnMemory(t *testing.T) {
	x := handmade()
	a, _ := blob.Put(x)
	b, _ := blob.Put(x)
	if !reflect.DeepEqual(x, handmade()) {
		t.Error("the table is changed", x)
	}
	for i := range a {
		a[i] = 7
	}
	_ = append(a[:4], 1, 2, 3)
	if !bytes.Equal(b, spelt(handmade())) {
		t.Errorf("answers share memory: %x", b)
	}
	// What stands behind the bytes that are handed in is not theirs.
	room := append(slices.Clone(b), 9, 9, 9, 9)
	y, _ := blob.Get(room[:len(b)])
	z, _ := blob.Get(room[:len(b)])
	if !bytes.Equal(room, append(slices.Clone(b), 9, 9, 9, 9)) {
		t.Errorf("the bytes are changed: %x", room)
	}
	blob.Sum(room)
	for i := range room {
		room[i] = 7
	}
	if !sameTable(y, handmade()) {
		t.Error("the bytes are kept", y)
	}
	y.Trans[0], y.Trans[1].Off = api.Tran{}, 7
	_ = append(y.Trans[:1], api.Tran{})
	if !sameTable(z, handmade()) {
		t.Error("answers share memory", z)
	}
	// What stands behind a list that is handed in is not its own.
	x.Trans = append(handmade().Trans, far(3)...)[:2]
	blob.Put(x)
	if behind := x.Trans[2:5]; !slices.Equal(behind, far(3)) {
		t.Error("the table is changed", behind)
	}
	x.Trans[0].Off = 900
	if c, _ := blob.Put(x); !bytes.Equal(c, spelt(x)) {
		t.Errorf("Put is %x", c)
	}
}

// P14.2, P14.3: any bytes are told, or are those of the table that they say, whatever their sum is.
func FuzzGet(f *testing.F) {
	for _, x := range []comp.Table{zone.UTC(), handmade(), {Name: "Z"}, {Name: "F", Trans: far(20)}} {
		f.Add(spelt(x))
	}
	f.Add([]byte("TZ40"))
	f.Fuzz(func(t *testing.T, b []byte) {
		for _, c := range [][]byte{b, mended(append(slices.Clone(b), 0, 0, 0, 0))} {
			x, e := blob.Get(c)
			if e == api.OK && !bytes.Equal(spelt(x), c) || e != api.OK && !reflect.DeepEqual(x, comp.Table{}) {
				t.Fatalf("Get(%x) is %v, %d", c, x, e)
			}
		}
	})
}
