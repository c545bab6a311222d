package day_test

import (
	"cmp"
	"math"
	"math/big"
	"math/rand"
	"slices"
	"testing"
	"time"

	"computus/api"
	"computus/day"
)

const (
	leastYear = -4712
	mostYear  = 294276
	dayMicro  = 86400000000
)

// dayOf is the day of a date, by package time.
func dayOf(y, m, d int64) int64 {
	const epoch = 10957 // January 1, 2000, since 1970
	return time.Date(int(y), time.Month(m), int(d), 0, 0, 0, 0, time.UTC).Unix()/86400 - epoch
}

// dateOf is the date of a day, by package time.
func dateOf(n int64) (int64, int64, int64) {
	t := time.Unix((n+10957)*86400, 0).UTC()
	return int64(t.Year()), int64(t.Month()), int64(t.Day())
}

func firstDay() int64   { return dayOf(leastYear, 1, 1) }
func lastDay() int64    { return dayOf(mostYear, 12, 31) }
func firstMicro() int64 { return firstDay() * dayMicro }
func lastMicro() int64  { return (lastDay()+1)*dayMicro - 1 }

// odd is numbers about all edges.
func odd() []int64 {
	l := []int64{math.MinInt64, math.MaxInt64, dayOf(-4718, 1, 1), dayOf(294282, 12, 31), firstDay(), lastDay(),
		firstMicro(), lastMicro(), lastMicro() + dayMicro, firstMicro() - dayMicro, 0, 59, 8825, 12, 13, 31, 32, dayMicro, -dayMicro, 2 * dayMicro, 1 << 31, 1 << 32, -1 << 31}
	var out []int64
	for _, n := range l {
		out = append(out, n-1, n, n+1)
	}
	slices.Sort(out)
	return slices.Compact(out)
}

// dates is dates that can be and that can not, of each odd day and Inf.
func dates() []api.Date {
	var l []api.Date
	for _, inf := range []int{0, 1, -1, 2, -2, 3, math.MaxInt, math.MinInt, 256, 1 << 32} {
		for _, n := range odd() {
			l = append(l, api.Date{Inf: inf, D: n})
		}
	}
	return l
}

func stamps() []api.Stamp {
	var l []api.Stamp
	for _, d := range dates() {
		l = append(l, api.Stamp{Inf: d.Inf, U: d.D})
	}
	return l
}

// right is the document's words on a date.
func right(d api.Date) bool {
	return d.Inf == 0 && d.D >= firstDay() && d.D <= lastDay() || (d.Inf == -1 || d.Inf == 1) && d.D == 0
}

func rightStamp(t api.Stamp) bool {
	return t.Inf == 0 && t.U >= firstMicro() && t.U <= lastMicro() || (t.Inf == -1 || t.Inf == 1) && t.U == 0
}

// someDay is a day of a date that can be, often near an end.
func someDay(r *rand.Rand) int64 {
	switch r.Intn(4) {
	case 0:
		return firstDay() + r.Int63n(800)
	case 1:
		return lastDay() - r.Int63n(800)
	case 2:
		return r.Int63n(80000) - 40000
	}
	return firstDay() + r.Int63n(lastDay()-firstDay()+1)
}

// someNumber is a number of any size.
func someNumber(r *rand.Rand) int64 {
	return int64(r.Uint64()) >> r.Intn(64)
}

// P15.1: which dates and stamps can be.
func TestRight(t *testing.T) {
	if firstDay() != -2451507 || lastDay() != 106751982 {
		t.Fatal("the ends of all dates are", firstDay(), lastDay())
	}
	count := 0
	for _, d := range dates() {
		if got := day.Right(d); got != right(d) {
			t.Errorf("Right(%v) is %v", d, got)
		}
		if right(d) {
			count++
		}
	}
	if count < 12 {
		t.Error("too few dates can be:", count)
	}
	for _, s := range stamps() {
		if got := day.RightStamp(s); got != rightStamp(s) {
			t.Errorf("RightStamp(%v) is %v", s, got)
		}
	}
	r := rand.New(rand.NewSource(1501))
	for range 20000 {
		d := api.Date{D: someNumber(r)}
		s := api.Stamp{U: someNumber(r)}
		if day.Right(d) != right(d) || day.RightStamp(s) != rightStamp(s) {
			t.Fatal("Right of", d, s)
		}
	}
}

// P15.1: the dates of years that are named, whole, and of those at the ends.
func TestMake(t *testing.T) {
	for _, y := range []int64{leastYear, -4711, -401, -400, -100, -5, -4, -1, 0, 1, 4, 100, 1582, 1900, 1999, 2000, 2001, 2023, 2024, 2100, 294275, mostYear} {
		for m := int64(-1); m <= 14; m++ {
			for d := int64(-1); d <= 33; d++ {
				got, e := day.Make(y, m, d)
				want, wantE := api.Date{}, api.ErrRange
				n := dayOf(y, m, d)
				if ny, nm, nd := dateOf(n); ny == y && nm == m && nd == d {
					want, wantE = api.Date{D: n}, api.OK
				}
				if got != want || e != wantE {
					t.Fatalf("Make(%d, %d, %d) is %v, %d", y, m, d, got, e)
				}
			}
		}
	}
}

// P15.1: what is no date, or of a year beyond, though the calendar has it.
func TestMakeRefuses(t *testing.T) {
	for _, x := range [][3]int64{
		{leastYear - 1, 12, 31}, {leastYear - 1, 1, 1}, {mostYear + 1, 1, 1}, {mostYear + 1, 12, 31},
		{-4718, 1, 1}, {294282, 12, 31}, {-4719, 12, 31}, {294283, 1, 1},
		{2023, 2, 29}, {1900, 2, 29}, {2100, 2, 29}, {2024, 2, 30}, {2024, 4, 31}, {2024, 0, 1}, {2024, 13, 1}, {2024, 1, 0}, {2024, 1, 32}, {2024, -1, 1}, {2024, 1, -1},
	} {
		if d, e := day.Make(x[0], x[1], x[2]); d != (api.Date{}) || e != api.ErrRange {
			t.Errorf("Make(%v) is %v, %d", x, d, e)
		}
	}
	for _, y := range odd() {
		for _, m := range []int64{math.MinInt64, -1, 0, 1, 12, 13, math.MaxInt64, 1<<32 + 1, 1<<63 - 12} {
			for _, d := range []int64{math.MinInt64, -1, 0, 1, 31, 32, math.MaxInt64, 1<<32 + 1} {
				isDate := y >= leastYear && y <= mostYear && (m == 1 || m == 12) && (d == 1 || d == 31)
				x, e := day.Make(y, m, d)
				if isDate != (e == api.OK) || !isDate && (x != api.Date{} || e != api.ErrRange) {
					t.Errorf("Make(%d, %d, %d) is %v, %d", y, m, d, x, e)
				}
			}
		}
	}
}

// P15.1: the parts of dates, and back.
func TestParts(t *testing.T) {
	ask := func(n int64) {
		y, m, d, e := day.Parts(api.Date{D: n})
		wy, wm, wd := dateOf(n)
		if y != wy || m != wm || d != wd || e != api.OK {
			t.Fatalf("Parts of day %d is %d, %d, %d, %d", n, y, m, d, e)
		}
		if back, e := day.Make(y, m, d); back != (api.Date{D: n}) || e != api.OK {
			t.Fatalf("Make(%d, %d, %d) is %v, %d", y, m, d, back, e)
		}
	}
	for n := int64(-1500); n <= 10000; n++ {
		ask(n)
	}
	for n := range int64(1500) {
		ask(firstDay() + n)
		ask(lastDay() - n)
	}
	r := rand.New(rand.NewSource(1502))
	for range 20000 {
		ask(someDay(r))
	}
}

// P15.1: the errors of Parts, in their order.
func TestPartsRefuses(t *testing.T) {
	for _, d := range dates() {
		y, m, dd, e := day.Parts(d)
		switch {
		case !right(d):
			if y != 0 || m != 0 || dd != 0 || e != api.ErrArg {
				t.Errorf("Parts(%v) is %d, %d, %d, %d", d, y, m, dd, e)
			}
		case d.Inf != 0:
			if y != 0 || m != 0 || dd != 0 || e != api.ErrRange {
				t.Errorf("Parts(%v) is %d, %d, %d, %d", d, y, m, dd, e)
			}
		case e != api.OK:
			t.Errorf("Parts(%v) is refused: %d", d, e)
		}
	}
}

// P15.1: the order of dates, and of stamps; nothing of one that can not be.
func TestCmp(t *testing.T) {
	order := []api.Date{{Inf: -1}, {D: firstDay()}, {D: firstDay() + 1}, {D: -1}, {}, {D: 1}, {D: 8825}, {D: lastDay() - 1}, {D: lastDay()}, {Inf: 1}}
	for i, a := range order {
		for j, b := range order {
			if got := day.Cmp(a, b); got != cmp.Compare(i, j) {
				t.Errorf("Cmp(%v, %v) is %d", a, b, got)
			}
		}
	}
	for _, a := range dates() {
		for _, b := range order {
			if !right(a) && (day.Cmp(a, b) != 0 || day.Cmp(b, a) != 0 || day.Cmp(a, a) != 0) {
				t.Errorf("Cmp of %v and %v is not 0", a, b)
			}
		}
	}
	wrong := api.Date{Inf: 1, D: 1}
	if day.Cmp(wrong, api.Date{D: lastDay() + 1}) != 0 || day.Cmp(api.Date{D: lastDay() + 1}, wrong) != 0 {
		t.Error("Cmp of two that can not be is not 0")
	}
}

func TestCmpStamp(t *testing.T) {
	order := []api.Stamp{{Inf: -1}, {U: firstMicro()}, {U: firstMicro() + 1}, {U: -dayMicro}, {U: -1}, {}, {U: 1}, {U: dayMicro}, {U: lastMicro() - 1}, {U: lastMicro()}, {Inf: 1}}
	for i, a := range order {
		for j, b := range order {
			if got := day.CmpStamp(a, b); got != cmp.Compare(i, j) {
				t.Errorf("CmpStamp(%v, %v) is %d", a, b, got)
			}
		}
	}
	for _, a := range stamps() {
		for _, b := range order {
			if !rightStamp(a) && (day.CmpStamp(a, b) != 0 || day.CmpStamp(b, a) != 0 || day.CmpStamp(a, a) != 0) {
				t.Errorf("CmpStamp of %v and %v is not 0", a, b)
			}
		}
	}
	wrong := api.Stamp{Inf: -1, U: 1}
	if day.CmpStamp(wrong, api.Stamp{U: lastMicro() + 1}) != 0 || day.CmpStamp(api.Stamp{U: lastMicro() + 1}, wrong) != 0 {
		t.Error("CmpStamp of two that can not be is not 0")
	}
}

// movedBy is what Add must tell: the words of P15.2, with numbers of any size.
func movedBy(d api.Date, days int64) (api.Date, api.Errno) {
	if !right(d) {
		return api.Date{}, api.ErrArg
	}
	if d.Inf != 0 {
		return d, api.OK
	}
	sum := new(big.Int).Add(big.NewInt(d.D), big.NewInt(days))
	if !sum.IsInt64() || !right(api.Date{D: sum.Int64()}) {
		return api.Date{}, api.ErrRange
	}
	return api.Date{D: sum.Int64()}, api.OK
}

// P15.2: days on and back, up to the ends and beyond; all errors.
func TestAdd(t *testing.T) {
	for _, d := range dates() {
		for _, n := range append(odd(), lastDay()-d.D, lastDay()-d.D+1, firstDay()-d.D, firstDay()-d.D-1) {
			want, wantE := movedBy(d, n)
			if got, e := day.Add(d, n); got != want || e != wantE {
				t.Fatalf("Add(%v, %d) is %v, %d; not %v, %d", d, n, got, e, want, wantE)
			}
		}
	}
	for _, x := range []struct {
		from [3]int64
		days int64
		to   [3]int64
	}{
		{[3]int64{2024, 2, 29}, 1, [3]int64{2024, 3, 1}},
		{[3]int64{2023, 2, 28}, 1, [3]int64{2023, 3, 1}},
		{[3]int64{2024, 1, 1}, -1, [3]int64{2023, 12, 31}},
		{[3]int64{2000, 1, 1}, 366, [3]int64{2001, 1, 1}},
		{[3]int64{1, 1, 1}, -1, [3]int64{0, 12, 31}},
		{[3]int64{0, 1, 1}, -1, [3]int64{-1, 12, 31}},
		{[3]int64{2024, 5, 5}, 0, [3]int64{2024, 5, 5}},
	} {
		d, _ := day.Make(x.from[0], x.from[1], x.from[2])
		moved, e := day.Add(d, x.days)
		y, m, dd, _ := day.Parts(moved)
		if [3]int64{y, m, dd} != x.to || e != api.OK {
			t.Errorf("Add(%v, %d) is %d, %d, %d, %d", x.from, x.days, y, m, dd, e)
		}
	}
}

// P15.2: how many days apart; the errors in their order.
func TestSub(t *testing.T) {
	l := dates()
	r := rand.New(rand.NewSource(1503))
	for range 60000 {
		a, b := l[r.Intn(len(l))], l[r.Intn(len(l))]
		if r.Intn(2) == 0 {
			a = api.Date{D: someDay(r)}
		}
		if r.Intn(2) == 0 {
			b = api.Date{D: someDay(r)}
		}
		want, wantE := a.D-b.D, api.OK
		switch {
		case !right(a) || !right(b):
			want, wantE = 0, api.ErrArg
		case a.Inf != 0 || b.Inf != 0:
			want, wantE = 0, api.ErrRange
		}
		if got, e := day.Sub(a, b); got != want || e != wantE {
			t.Fatalf("Sub(%v, %v) is %d, %d", a, b, got, e)
		}
	}
	for _, inf := range []api.Date{{Inf: 1}, {Inf: -1}} {
		wrong := api.Date{Inf: 1, D: 5}
		for _, x := range []struct {
			a, b api.Date
			e    api.Errno
		}{{inf, inf, api.ErrRange}, {inf, api.Date{}, api.ErrRange}, {api.Date{}, inf, api.ErrRange}, {inf, wrong, api.ErrArg}, {wrong, inf, api.ErrArg}} {
			if n, e := day.Sub(x.a, x.b); n != 0 || e != x.e {
				t.Errorf("Sub(%v, %v) is %d, %d", x.a, x.b, n, e)
			}
		}
	}
	last, first := api.Date{D: lastDay()}, api.Date{D: firstDay()}
	if n, e := day.Sub(last, first); n != 109203489 || e != api.OK {
		t.Error("all dates are", n, e)
	}
	if n, e := day.Sub(first, last); n != -109203489 || e != api.OK {
		t.Error("all dates back are", n, e)
	}
}

// shifted is what Shift must tell, with months of any size.
func shifted(d api.Date, months int64) (api.Date, api.Errno) {
	if !right(d) {
		return api.Date{}, api.ErrArg
	}
	if d.Inf != 0 {
		return d, api.OK
	}
	y, m, dd := dateOf(d.D)
	at := new(big.Int).Add(big.NewInt(y*12+m-1), big.NewInt(months))
	year, month := new(big.Int).DivMod(at, big.NewInt(12), new(big.Int))
	if year.Cmp(big.NewInt(leastYear)) < 0 || year.Cmp(big.NewInt(mostYear)) > 0 {
		return api.Date{}, api.ErrRange
	}
	y, m = year.Int64(), month.Int64()+1
	for dd > 28 {
		if _, nm, _ := dateOf(dayOf(y, m, dd)); nm == m {
			break
		}
		dd--
	}
	return api.Date{D: dayOf(y, m, dd)}, api.OK
}

// P15.2: months on and back, up to the ends and beyond; all errors.
func TestShift(t *testing.T) {
	ask := func(d api.Date, n int64) {
		want, wantE := shifted(d, n)
		if got, e := day.Shift(d, n); got != want || e != wantE {
			t.Fatalf("Shift(%v, %d) is %v, %d; not %v, %d", d, n, got, e, want, wantE)
		}
	}
	// The calendar goes on for six years at either end: they have no dates.
	for _, d := range dates() {
		for _, n := range odd() {
			ask(d, n)
		}
		for n := int64(-80); n <= 80; n++ {
			ask(d, n)
		}
	}
	const all = (mostYear - leastYear + 1) * 12
	r := rand.New(rand.NewSource(1504))
	for range 40000 {
		d := api.Date{D: someDay(r)}
		ask(d, r.Int63n(100)-50)
		ask(d, r.Int63n(2*all)-all)
		ask(d, someNumber(r))
	}
	for n := int64(all - 80); n <= all+80; n++ {
		for _, d := range []api.Date{{D: firstDay()}, {D: firstDay() + 30}, {D: lastDay()}, {D: lastDay() - 30}} {
			ask(d, n)
			ask(d, -n)
		}
	}
}

// P15.2: some by hand.
func TestShiftByHand(t *testing.T) {
	for _, x := range []struct {
		from   [3]int64
		months int64
		to     [3]int64
	}{
		{[3]int64{2024, 1, 31}, 1, [3]int64{2024, 2, 29}},
		{[3]int64{2023, 1, 31}, 1, [3]int64{2023, 2, 28}},
		{[3]int64{2024, 2, 29}, 12, [3]int64{2025, 2, 28}},
		{[3]int64{2024, 2, 29}, 48, [3]int64{2028, 2, 29}},
		{[3]int64{2024, 3, 31}, -1, [3]int64{2024, 2, 29}},
		{[3]int64{2024, 1, 15}, -1, [3]int64{2023, 12, 15}},
		{[3]int64{1, 1, 31}, -2, [3]int64{0, 11, 30}},
		{[3]int64{2024, 5, 31}, 0, [3]int64{2024, 5, 31}},
		{[3]int64{leastYear, 1, 31}, 1, [3]int64{leastYear, 2, 29}},
		{[3]int64{mostYear, 11, 30}, 1, [3]int64{mostYear, 12, 30}},
	} {
		d, _ := day.Make(x.from[0], x.from[1], x.from[2])
		moved, e := day.Shift(d, x.months)
		y, m, dd, _ := day.Parts(moved)
		if [3]int64{y, m, dd} != x.to || e != api.OK {
			t.Errorf("Shift(%v, %d) is %d, %d, %d, %d", x.from, x.months, y, m, dd, e)
		}
	}
	for _, x := range []struct {
		from   [3]int64
		months int64
	}{{[3]int64{mostYear, 12, 1}, 1}, {[3]int64{leastYear, 1, 31}, -1}, {[3]int64{2024, 1, 1}, math.MaxInt64}, {[3]int64{2024, 1, 1}, math.MinInt64}} {
		d, _ := day.Make(x.from[0], x.from[1], x.from[2])
		if moved, e := day.Shift(d, x.months); moved != (api.Date{}) || e != api.ErrRange {
			t.Errorf("Shift(%v, %d) is %v, %d", x.from, x.months, moved, e)
		}
	}
}

// stamped is the words of P15.3 on Stamp.
func stamped(d api.Date, us int64) (api.Stamp, api.Errno) {
	if !right(d) || us < 0 || us > dayMicro {
		return api.Stamp{}, api.ErrArg
	}
	if d.Inf != 0 {
		return api.Stamp{Inf: d.Inf}, api.OK
	}
	sum := new(big.Int).Mul(big.NewInt(d.D), big.NewInt(dayMicro))
	sum.Add(sum, big.NewInt(us))
	if !sum.IsInt64() || !rightStamp(api.Stamp{U: sum.Int64()}) {
		return api.Stamp{}, api.ErrRange
	}
	return api.Stamp{U: sum.Int64()}, api.OK
}

// P15.3: times of dates, up to 24 o'clock; 0 o'clock of Start.
func TestStamp(t *testing.T) {
	ask := func(d api.Date, us int64) {
		want, wantE := stamped(d, us)
		if got, e := day.Stamp(d, us); got != want || e != wantE {
			t.Fatalf("Stamp(%v, %d) is %v, %d; not %v, %d", d, us, got, e, want, wantE)
		}
	}
	for _, d := range dates() {
		for _, us := range append(odd(), 43200000000, dayMicro-2, dayMicro+2) {
			ask(d, us)
		}
		want, wantE := stamped(d, 0)
		if got, e := day.Start(d); got != want || e != wantE {
			t.Fatalf("Start(%v) is %v, %d; not %v, %d", d, got, e, want, wantE)
		}
	}
	r := rand.New(rand.NewSource(1505))
	for range 20000 {
		ask(api.Date{D: someDay(r)}, r.Int63n(dayMicro+1))
	}
	last := api.Date{D: lastDay()}
	for _, x := range []struct {
		d    api.Date
		us   int64
		want api.Stamp
		e    api.Errno
	}{
		{api.Date{}, 0, api.Stamp{}, api.OK},
		{api.Date{D: 1}, 1, api.Stamp{U: dayMicro + 1}, api.OK},
		{api.Date{D: -1}, dayMicro, api.Stamp{}, api.OK},
		{api.Date{D: -1}, dayMicro - 1, api.Stamp{U: -1}, api.OK},
		{last, dayMicro - 1, api.Stamp{U: 9223371331199999999}, api.OK},
		{last, dayMicro, api.Stamp{}, api.ErrRange},
		{last, dayMicro + 1, api.Stamp{}, api.ErrArg},
		{last, -1, api.Stamp{}, api.ErrArg},
		{api.Date{D: firstDay()}, 0, api.Stamp{U: -211810204800000000}, api.OK},
		{api.Date{Inf: 1}, dayMicro, api.Stamp{Inf: 1}, api.OK},
		{api.Date{Inf: -1}, 7, api.Stamp{Inf: -1}, api.OK},
		{api.Date{Inf: 1}, -1, api.Stamp{}, api.ErrArg},
		{api.Date{Inf: -1, D: 1}, 7, api.Stamp{}, api.ErrArg},
	} {
		if got, e := day.Stamp(x.d, x.us); got != x.want || e != x.e {
			t.Errorf("Stamp(%v, %d) is %v, %d", x.d, x.us, got, e)
		}
	}
}

// P15.3: the date of a stamp and the time of it; P15.5: that is the stamp.
func TestOf(t *testing.T) {
	ask := func(s api.Stamp) {
		d, us, e := day.Of(s)
		if !rightStamp(s) {
			if d != (api.Date{}) || us != 0 || e != api.ErrArg {
				t.Fatalf("Of(%v) is %v, %d, %d", s, d, us, e)
			}
			return
		}
		if s.Inf != 0 {
			if d != (api.Date{Inf: s.Inf}) || us != 0 || e != api.OK {
				t.Fatalf("Of(%v) is %v, %d, %d", s, d, us, e)
			}
		} else {
			n, rest := new(big.Int).DivMod(big.NewInt(s.U), big.NewInt(dayMicro), new(big.Int))
			if d != (api.Date{D: n.Int64()}) || us != rest.Int64() || e != api.OK {
				t.Fatalf("Of(%v) is %v, %d, %d", s, d, us, e)
			}
		}
		if back, e := day.Stamp(d, us); back != s || e != api.OK {
			t.Fatalf("Stamp(%v, %d) is %v, %d", d, us, back, e)
		}
	}
	for _, s := range stamps() {
		ask(s)
	}
	r := rand.New(rand.NewSource(1506))
	for range 20000 {
		ask(api.Stamp{U: someNumber(r)})
		ask(api.Stamp{U: someDay(r)*dayMicro + r.Int63n(3)})
		ask(api.Stamp{U: someDay(r)*dayMicro + dayMicro - 1 - r.Int63n(3)})
		ask(api.Stamp{U: someDay(r)*dayMicro + r.Int63n(dayMicro)})
	}
	d, us, e := day.Of(api.Stamp{U: -1})
	y, m, dd, _ := day.Parts(d)
	if y != 1999 || m != 12 || dd != 31 || us != 86399999999 || e != api.OK {
		t.Error("Of(-1) is", y, m, dd, us, e)
	}
}

// P15.4: Add and Sub undo each other, and dates are in the order of their days.
func TestAddAndSub(t *testing.T) {
	r := rand.New(rand.NewSource(1507))
	for range 40000 {
		a, b := api.Date{D: someDay(r)}, api.Date{D: someDay(r)}
		n, e := day.Sub(a, b)
		if e != api.OK {
			t.Fatalf("Sub(%v, %v) is refused: %d", a, b, e)
		}
		if back, e := day.Add(b, n); back != a || e != api.OK {
			t.Fatalf("Add(%v, %d) is %v, %d", b, n, back, e)
		}
		if day.Cmp(a, b) != cmp.Compare(n, 0) || day.Cmp(a, b) != cmp.Compare(a.D, b.D) {
			t.Fatalf("Cmp(%v, %v) is %d", a, b, day.Cmp(a, b))
		}
		on, e := day.Add(a, n)
		if e != api.OK {
			continue
		}
		if apart, e := day.Sub(on, a); apart != n || e != api.OK {
			t.Fatalf("Sub(%v, %v) is %d, %d", on, a, apart, e)
		}
	}
	for d := (api.Date{D: firstDay()}); d.D < firstDay()+2000; {
		next, e := day.Add(d, 1)
		if e != api.OK || day.Cmp(d, next) != -1 || day.Cmp(next, d) != 1 {
			t.Fatal("the day behind", d, "is", next, e)
		}
		d = next
	}
}

// P6: whatever is given, calls end, and what stands beside an error is nothing.
func FuzzDates(f *testing.F) {
	f.Add(0, int64(8825), int64(1))
	f.Add(1, int64(0), int64(math.MaxInt64))
	f.Add(-1, int64(math.MinInt64), int64(math.MinInt64))
	f.Add(0, lastDay(), int64(dayMicro))
	f.Fuzz(func(t *testing.T, inf int, n, by int64) {
		d, s := api.Date{Inf: inf, D: n}, api.Stamp{Inf: inf, U: n}
		want, wantE := movedBy(d, by)
		if got, e := day.Add(d, by); got != want || e != wantE {
			t.Fatalf("Add(%v, %d) is %v, %d", d, by, got, e)
		}
		want, wantE = shifted(d, by)
		if got, e := day.Shift(d, by); got != want || e != wantE {
			t.Fatalf("Shift(%v, %d) is %v, %d", d, by, got, e)
		}
		at, wantE := stamped(d, by)
		if got, e := day.Stamp(d, by); got != at || e != wantE {
			t.Fatalf("Stamp(%v, %d) is %v, %d", d, by, got, e)
		}
		if day.Right(d) != right(d) || day.RightStamp(s) != rightStamp(s) {
			t.Fatal("Right of", d, s)
		}
		if x, us, e := day.Of(s); e != api.OK && (x != api.Date{} || us != 0) {
			t.Fatal("Of", s, "is", x, us, e)
		}
		if y, m, dd, e := day.Parts(d); e != api.OK && (y != 0 || m != 0 || dd != 0) {
			t.Fatal("Parts", d, "is", y, m, dd, e)
		}
	})
}
