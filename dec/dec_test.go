package dec_test

import (
	"math"
	"math/big"
	"math/rand"
	"regexp"
	"strings"
	"testing"

	"computus/api"
	"computus/dec"
)

const (
	least    = math.MinInt64
	greatest = math.MaxInt64
)

// answer is what a call told.
type answer struct {
	x dec.Dec
	e api.Errno
}

func told(x dec.Dec, e api.Errno) answer { return answer{x, e} }

func check(t *testing.T, name string, got, want answer, arguments ...any) {
	t.Helper()
	if got != want {
		t.Fatal(name, arguments, "is", got, "not", want)
	}
}

func ten(scale int) *big.Int {
	return new(big.Int).Exp(big.NewInt(10), big.NewInt(int64(scale)), nil)
}

// at is x's N at a Scale that is not below its own, of any size.
func at(x dec.Dec, scale int) *big.Int {
	return new(big.Int).Mul(big.NewInt(x.N), ten(scale-x.Scale))
}

// rat is the number that x is.
func rat(x dec.Dec) *big.Rat {
	return new(big.Rat).SetFrac(big.NewInt(x.N), ten(x.Scale))
}

// whole is what a call must answer that has that N and Scale.
func whole(n *big.Int, scale int) answer {
	if !n.IsInt64() {
		return answer{dec.Dec{}, api.ErrRange}
	}
	return answer{dec.Dec{N: n.Int64(), Scale: scale}, api.OK}
}

// wholes are edges of N: nought, halves, powers of ten and the ends of the int64s.
func wholes() []int64 {
	l := []int64{0, least, least + 1, greatest, greatest - 1, 1 << 62, -1 << 62, 3037000500, -3037000500, 12340, 4567, -99995}
	p := int64(1)
	for range 19 {
		l = append(l, p, -p, p-1, 1-p, 5*(p/10), -5*(p/10), 5*(p/10)-1, 1-5*(p/10), greatest/p, least/p, greatest/p+1, least/p-1)
		if p <= greatest/10 {
			p *= 10
		}
	}
	return l
}

// numbers are those edges at Scales that can be, and some by chance, always the same.
func numbers() []dec.Dec {
	var l []dec.Dec
	for i, n := range wholes() {
		for _, scale := range []int{0, 9, i % 10} {
			l = append(l, dec.Dec{N: n, Scale: scale})
		}
	}
	r := rand.New(rand.NewSource(4))
	for range 100 {
		l = append(l, dec.Dec{N: int64(r.Uint64()) >> r.Intn(64), Scale: r.Intn(10)})
	}
	return l
}

// wrong are Scales that can not be.
func wrong() []int {
	return []int{-1, 10, 11, -9, -10, 100, math.MinInt, math.MaxInt}
}

// P4.1.
func TestRight(t *testing.T) {
	for _, n := range []int64{0, 1, -1, least, greatest} {
		for scale := range 10 {
			if !dec.Right(dec.Dec{N: n, Scale: scale}) {
				t.Error("Right", n, scale)
			}
		}
		for _, scale := range wrong() {
			if dec.Right(dec.Dec{N: n, Scale: scale}) {
				t.Error("Right", n, scale)
			}
		}
	}
}

// P4.1: what can not be is refused, ahead of what is out of range.
func TestWrongNumbers(t *testing.T) {
	refused := answer{dec.Dec{}, api.ErrArg}
	for _, scale := range wrong() {
		for _, n := range []int64{0, 7, 10, least, greatest} {
			x := dec.Dec{N: n, Scale: scale}
			for _, y := range []dec.Dec{{}, {N: 1, Scale: 9}, {N: greatest}, {N: least, Scale: 9}, x, {N: n, Scale: -scale}} {
				if scale == math.MinInt && y.Scale == 0 {
					y.Scale = -1
				}
				check(t, "Add", told(dec.Add(x, y)), refused, x, y)
				check(t, "Add", told(dec.Add(y, x)), refused, y, x)
				check(t, "Sub", told(dec.Sub(x, y)), refused, x, y)
				check(t, "Sub", told(dec.Sub(y, x)), refused, y, x)
				check(t, "Mul", told(dec.Mul(x, y)), refused, x, y)
				check(t, "Mul", told(dec.Mul(y, x)), refused, y, x)
				if dec.Cmp(x, y) != 0 || dec.Cmp(y, x) != 0 {
					t.Error("Cmp", x, y)
				}
			}
			for places := range 10 {
				check(t, "Round", told(dec.Round(x, places)), refused, x, places)
			}
			check(t, "Round", told(dec.Round(x, scale)), refused, x, scale)
			check(t, "Round", told(dec.Round(dec.Dec{N: n, Scale: 1}, scale)), refused, n, scale)
			if f, e := dec.Floor(x); f != 0 || e != api.ErrArg {
				t.Error("Floor", x, f, e)
			}
			if y := dec.Trim(x); y != x {
				t.Error("Trim", x, y)
			}
			if s := dec.Text(x); s != "" {
				t.Error("Text", x, s)
			}
		}
	}
}

// wantTwo is the sum, or the difference, by numbers of any size.
func wantTwo(x, y dec.Dec, reckon func(z, a, b *big.Int) *big.Int) answer {
	scale := max(x.Scale, y.Scale)
	a, b := at(x, scale), at(y, scale)
	if !a.IsInt64() || !b.IsInt64() {
		return answer{dec.Dec{}, api.ErrRange}
	}
	return whole(reckon(new(big.Int), a, b), scale)
}

func wantMul(x, y dec.Dec) answer {
	if x.Scale+y.Scale > 9 {
		return answer{dec.Dec{}, api.ErrRange}
	}
	return whole(new(big.Int).Mul(big.NewInt(x.N), big.NewInt(y.N)), x.Scale+y.Scale)
}

// P4.1, P4.4: of any two, either way round.
func TestTwo(t *testing.T) {
	l := numbers()
	for i, x := range l {
		for _, y := range l[:i+1] {
			sum, product := told(dec.Add(x, y)), told(dec.Mul(x, y))
			check(t, "Add", sum, wantTwo(x, y, (*big.Int).Add), x, y)
			check(t, "Add", told(dec.Add(y, x)), sum, y, x)
			check(t, "Sub", told(dec.Sub(x, y)), wantTwo(x, y, (*big.Int).Sub), x, y)
			check(t, "Sub", told(dec.Sub(y, x)), wantTwo(y, x, (*big.Int).Sub), y, x)
			check(t, "Mul", product, wantMul(x, y), x, y)
			check(t, "Mul", told(dec.Mul(y, x)), product, y, x)
			if c := dec.Cmp(x, y); c != at(x, 9).Cmp(at(y, 9)) || dec.Cmp(y, x) != -c {
				t.Fatal("Cmp", x, y, c, dec.Cmp(y, x))
			}
		}
	}
}

// P4.1: by hand.
func TestTwoByHand(t *testing.T) {
	of := func(n int64, scale int) dec.Dec { return dec.Dec{N: n, Scale: scale} }
	out := answer{dec.Dec{}, api.ErrRange}
	check(t, "Add", told(dec.Add(of(15, 1), of(25, 2))), answer{of(175, 2), api.OK})
	check(t, "Add", told(dec.Add(of(5, 1), of(5, 1))), answer{of(10, 1), api.OK})
	check(t, "Sub", told(dec.Sub(of(1, 0), of(1, 9))), answer{of(999999999, 9), api.OK})
	check(t, "Sub", told(dec.Sub(of(0, 0), of(least, 0))), out)
	// The sum would be an int64, but the first one at that Scale is none.
	check(t, "Add", told(dec.Add(of(922337203685477581, 0), of(-5, 1))), out)
	check(t, "Sub", told(dec.Sub(of(-5, 1), of(-922337203685477581, 0))), out)
	check(t, "Mul", told(dec.Mul(of(15, 1), of(20, 8))), answer{of(300, 9), api.OK})
	check(t, "Mul", told(dec.Mul(of(0, 5), of(0, 5))), out)
	check(t, "Mul", told(dec.Mul(of(least, 0), of(-1, 0))), out)
	if dec.Cmp(of(greatest, 0), of(greatest, 9)) != 1 || dec.Cmp(of(least, 9), of(least, 0)) != 1 || dec.Cmp(of(-1, 9), of(0, 0)) != -1 || dec.Cmp(of(10, 1), of(1, 0)) != 0 {
		t.Error("Cmp")
	}
}

// P4.2, P4.6.
func TestTrim(t *testing.T) {
	for _, x := range numbers() {
		y := dec.Trim(x)
		if !dec.Right(y) || rat(x).Cmp(rat(y)) != 0 || dec.Cmp(x, y) != 0 || y.Scale > 0 && y.N%10 == 0 {
			t.Fatal("Trim", x, y)
		}
	}
	for x, want := range map[dec.Dec]dec.Dec{{N: 12340, Scale: 3}: {N: 1234, Scale: 2}, {N: 0, Scale: 9}: {}, {N: 100}: {N: 100}, {N: -100, Scale: 2}: {N: -1},
		{N: -1000, Scale: 2}: {N: -10}, {N: 1, Scale: 9}: {N: 1, Scale: 9}} {
		if y := dec.Trim(x); y != want {
			t.Error("Trim", x, y, want)
		}
	}
}

// wantRound is the nearest number, of two the further one from nought.
func wantRound(x dec.Dec, places int) answer {
	if places >= x.Scale {
		return whole(at(x, places), places)
	}
	unit := ten(x.Scale - places)
	size := new(big.Int).Abs(big.NewInt(x.N))
	size.Add(size, new(big.Int).Quo(unit, big.NewInt(2)))
	size.Quo(size, unit)
	if x.N < 0 {
		size.Neg(size)
	}
	return whole(size, places)
}

// P4.2.
func TestRound(t *testing.T) {
	for _, x := range numbers() {
		for places := range 10 {
			check(t, "Round", told(dec.Round(x, places)), wantRound(x, places), x, places)
		}
	}
	for n := int64(-3000); n <= 3000; n++ {
		for scale := range 5 {
			for places := range scale + 1 {
				x := dec.Dec{N: n, Scale: scale}
				check(t, "Round", told(dec.Round(x, places)), wantRound(x, places), x, places)
			}
		}
	}
	for n, want := range map[int64]int64{25: 3, 24: 2, 15: 2, 5: 1, 4: 0, 0: 0, -4: 0, -5: -1, -15: -2, -24: -2, -25: -3, -26: -3} {
		check(t, "Round", told(dec.Round(dec.Dec{N: n, Scale: 1}, 0)), answer{dec.Dec{N: want}, api.OK}, n)
	}
}

// P4.2.
func TestFloor(t *testing.T) {
	for _, x := range numbers() {
		want := new(big.Int).Div(big.NewInt(x.N), ten(x.Scale)) // of a divisor above nought: not above
		if n, e := dec.Floor(x); n != want.Int64() || e != api.OK {
			t.Fatal("Floor", x, n, e, want)
		}
	}
	for x, want := range map[dec.Dec]int64{{N: -5, Scale: 1}: -1, {N: 5, Scale: 1}: 0, {N: -10, Scale: 1}: -1, {N: -1, Scale: 9}: -1, {N: least}: least, {N: greatest}: greatest} {
		if n, e := dec.Floor(x); n != want || e != api.OK {
			t.Error("Floor", x, n, e)
		}
	}
}

// P4.3, P4.5.
func TestText(t *testing.T) {
	for _, x := range numbers() {
		s := dec.Text(x)
		if want := rat(x).FloatString(x.Scale); s != want {
			t.Fatal("Text", x, s, want)
		}
		check(t, "Read", told(dec.Read(s)), answer{x, api.OK}, s)
	}
	for x, want := range map[dec.Dec]string{{}: "0", {Scale: 2}: "0.00", {N: -5, Scale: 1}: "-0.5", {N: 5, Scale: 9}: "0.000000005", {N: -7}: "-7", {N: 10, Scale: 1}: "1.0",
		{N: least}: "-9223372036854775808", {N: least, Scale: 9}: "-9223372036.854775808", {N: greatest, Scale: 1}: "922337203685477580.7"} {
		if s := dec.Text(x); s != want {
			t.Error("Text", x, s, want)
		}
	}
}

var form = regexp.MustCompile(`\A([+-]?)([0-9]+)(?:\.([0-9]{1,9}))?\z`)

// wantRead is what Read must answer, by a pattern of the library.
func wantRead(s string) answer {
	m := form.FindStringSubmatch(s)
	if m == nil {
		return answer{dec.Dec{}, api.ErrLiteral}
	}
	n, _ := new(big.Int).SetString(m[1]+m[2]+m[3], 10)
	return whole(n, len(m[3]))
}

func checkRead(t *testing.T, s string) {
	t.Helper()
	check(t, "Read", told(dec.Read(s)), wantRead(s), s)
}

// eachText goes through all texts of up to so many of the letters.
func eachText(letters string, most int, f func(string)) {
	f("")
	if most == 0 {
		return
	}
	for _, c := range letters {
		eachText(letters, most-1, func(s string) { f(string(c) + s) })
	}
}

// P4.3: all short texts, and those one byte away from long ones.
func TestRead(t *testing.T) {
	eachText("019.+-", 6, func(s string) { checkRead(t, s) })
	for _, s := range []string{"0", "-1", "+7", "12.340", "-0.5", "1.123456789", "9223372036854775807", "-9223372036854775808", "9223372036.854775807", "-922337203685477580.8"} {
		for i := range len(s) + 1 {
			for b := range 256 {
				one := string([]byte{byte(b)})
				checkRead(t, s[:i]+one+s[i:])
				if i < len(s) {
					checkRead(t, s[:i]+one+s[i+1:])
				}
			}
			if i < len(s) {
				checkRead(t, s[:i]+s[i+1:])
			}
		}
	}
}

// P4.3: by hand, the edges and what is none.
func TestReadByHand(t *testing.T) {
	noughts := strings.Repeat("0", 10000)
	for s, want := range map[string]dec.Dec{"0": {}, "-0": {}, "+0": {}, "-0.00": {Scale: 2}, "12.340": {N: 12340, Scale: 3}, "+5": {N: 5}, "007": {N: 7}, "-007.50": {N: -750, Scale: 2},
		"1.123456789": {N: 1123456789, Scale: 9}, "0.000000001": {N: 1, Scale: 9}, noughts + "1": {N: 1}, "-" + noughts + ".1": {N: -1, Scale: 1},
		"9223372036854775807": {N: greatest}, "+9223372036854775807": {N: greatest}, "-9223372036854775808": {N: least}, "-0009223372036.854775808": {N: least, Scale: 9}} {
		check(t, "Read", told(dec.Read(s)), answer{want, api.OK}, s)
	}
	for _, s := range []string{"9223372036854775808", "+9223372036854775808", "-9223372036854775809", "922337203685477580.8", "-922337203685477580.9", "9223372036854775807.0", "10000000000.000000000",
		"1" + noughts, "-1" + noughts, "18446744073709551616", "18446744073709551617", "1" + noughts + ".5"} {
		check(t, "Read", told(dec.Read(s)), answer{dec.Dec{}, api.ErrRange}, s)
	}
	for _, s := range []string{"", "+", "-", ".", "-.", "1.", ".5", "-.5", "+1.", "1.0123456789", "1.0000000000", "1..2", "1.2.3", "1.-2", "--1", "+-1", "-+1", "1-", "1+", " 1", "1 ", "1\n", "1\x00",
		"1e5", "0x1", "1_0", "1,5", "Inf", "NaN", "١", "1.２", "１", "−1", "\xff", "1\xff", "1.\xff", "1.5\xc3", "99999999999999999999x", "1" + noughts + ".", "1" + noughts + ".0123456789", "9223372036854775808."} {
		check(t, "Read", told(dec.Read(s)), answer{dec.Dec{}, api.ErrLiteral}, s)
	}
}
