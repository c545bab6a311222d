package civil_test

import (
	"math"
	"math/rand"
	"testing"
	"time"

	"computus/api"
	"computus/civil"
)

// The first and the last day that can be: January 1, -4718, and December 31, 294282.
const (
	firstDay = -2453698
	lastDay  = 106754173
)

// date is a year, month and day.
type date [3]int64

// next is the date behind one, counted as one counts by hand.
func (x date) next() date {
	long := []int64{31, 28, 31, 30, 31, 30, 31, 31, 30, 31, 30, 31}[x[1]-1]
	if x[1] == 2 && leap(x[0]) {
		long = 29
	}
	switch {
	case x[2] < long:
		return date{x[0], x[1], x[2] + 1}
	case x[1] < 12:
		return date{x[0], x[1] + 1, 1}
	}
	return date{x[0] + 1, 1, 1}
}

func leap(y int64) bool { return y%400 == 0 || y%4 == 0 && y%100 != 0 }

// daysOf is Days of a date that can be.
func daysOf(t *testing.T, y, m, d int64) int64 {
	t.Helper()
	n, e := civil.Days(y, m, d)
	if e != api.OK {
		t.Fatalf("Days(%d, %d, %d): %v", y, m, d, e)
	}
	return n
}

// timeOf is 0 o'clock of a day by the library's calendar.
func timeOf(n int64) time.Time {
	return time.Unix((n+10957)*86400, 0).UTC()
}

// edges are numbers that are no days, no years, no months, and those beside.
func edges() []int64 {
	l := []int64{math.MinInt64, math.MaxInt64, -1 << 32, 1 << 32, -api.LastYear, api.FirstYear, api.LastYear, firstDay, lastDay}
	for i := range int64(15) {
		l = append(l, i, -i, math.MinInt64+i, math.MaxInt64-i)
	}
	for i := range int64(2) {
		l = append(l, api.FirstYear-i, api.LastYear+i, firstDay-i, firstDay+i, lastDay-i, lastDay+i, 28+i, 30+i)
	}
	return l
}

// P2.1: leap years, of any year.
func TestLeap(t *testing.T) {
	for _, y := range []int64{0, 4, -4, 2000, 2024, 1600, -400, -4712, -4716, 294280, math.MinInt64, math.MaxInt64 - 3, 1<<62 + 4} {
		if civil.Leap(y) != leap(y) {
			t.Error("Leap", y)
		}
	}
	for _, y := range []int64{0, 4, -4, 400, -400, 2000, 2024, -4716, 294280} {
		if !civil.Leap(y) {
			t.Error("no leap year:", y)
		}
	}
	for _, y := range []int64{1, -1, 2, 100, -100, 1900, 2023, 2100, 2200, -4718, 294282, math.MaxInt64} {
		if civil.Leap(y) {
			t.Error("a leap year:", y)
		}
	}
}

// P2.1: months of any year, and numbers that are none.
func TestLen(t *testing.T) {
	for m, want := range []int64{0, 31, 28, 31, 30, 31, 30, 31, 31, 30, 31, 30, 31, 0, 0} {
		for _, y := range []int64{1900, 2023, -1, math.MaxInt64} {
			if got := civil.Len(y, int64(m)); got != want {
				t.Errorf("Len(%d, %d): %d, want %d", y, m, got, want)
			}
		}
		if m == 2 {
			want = 29
		}
		for _, y := range []int64{2000, 2024, 0, -4, 1 << 62} {
			if got := civil.Len(y, int64(m)); got != want {
				t.Errorf("Len(%d, %d): %d, want %d", y, m, got, want)
			}
		}
	}
	for _, m := range []int64{-1, -2, -12, 13, 14, 1<<32 + 1, 1<<32 + 2, math.MinInt64, math.MaxInt64} {
		if got := civil.Len(2024, m); got != 0 {
			t.Errorf("Len(2024, %d): %d", m, got)
		}
	}
}

// P2.1 and P2.2: dates that can be and those beside them, which have no day.
func TestRight(t *testing.T) {
	for _, x := range []struct {
		at   date
		want bool
	}{
		{date{2024, 2, 29}, true}, {date{2023, 2, 29}, false}, {date{2024, 2, 30}, false},
		{date{1900, 2, 29}, false}, {date{2000, 2, 29}, true}, {date{0, 2, 29}, true},
		{date{2024, 1, 31}, true}, {date{2024, 1, 32}, false}, {date{2024, 4, 30}, true}, {date{2024, 4, 31}, false},
		{date{2024, 1, 1}, true}, {date{2024, 1, 0}, false}, {date{2024, 1, -1}, false},
		{date{2024, 12, 1}, true}, {date{2024, 13, 1}, false}, {date{2024, 0, 1}, false}, {date{2024, -1, 1}, false},
		{date{2024, 0, 0}, false}, {date{2024, 13, 0}, false}, {date{0, 1, 1}, true},
		{date{-4718, 1, 1}, true}, {date{-4719, 12, 31}, false}, {date{-4719, 1, 1}, false},
		{date{294282, 12, 31}, true}, {date{294282, 12, 32}, false}, {date{294283, 1, 1}, false},
		{date{math.MinInt64, 1, 1}, false}, {date{math.MaxInt64, 1, 1}, false},
		{date{2024, math.MinInt64, 1}, false}, {date{2024, math.MaxInt64, 1}, false},
		{date{2024, 1, math.MinInt64}, false}, {date{2024, 1, math.MaxInt64}, false},
	} {
		if got := civil.Right(x.at[0], x.at[1], x.at[2]); got != x.want {
			t.Errorf("Right%v: %v", x.at, got)
		}
		n, e := civil.Days(x.at[0], x.at[1], x.at[2])
		if !x.want && (n != 0 || e != api.ErrRange) || x.want && e != api.OK {
			t.Errorf("Days%v: %d, %v", x.at, n, e)
		}
	}
}

// P2.1: the least and the greatest day.
func TestEnds(t *testing.T) {
	if civil.First() != firstDay || civil.Last() != lastDay {
		t.Error("First, Last:", civil.First(), civil.Last())
	}
	if daysOf(t, -4718, 1, 1) != firstDay || daysOf(t, 294282, 12, 31) != lastDay {
		t.Error("Days of the first and the last date")
	}
}

// P2.2: days written out.
func TestDaysByHand(t *testing.T) {
	for _, x := range []struct {
		at date
		n  int64
	}{
		{date{2000, 1, 1}, 0}, {date{1999, 12, 31}, -1}, {date{2000, 2, 29}, 59}, {date{2000, 3, 1}, 60}, {date{2000, 12, 31}, 365},
		{date{2001, 1, 1}, 366}, {date{2024, 2, 29}, 8825}, {date{1970, 1, 1}, -10957}, {date{1900, 3, 1}, -36465}, {date{1900, 2, 28}, -36466},
		{date{1, 1, 1}, -730119}, {date{0, 12, 31}, -730120}, {date{0, 2, 29}, -730426}, {date{0, 1, 1}, -730485}, {date{-1, 12, 31}, -730486},
		{date{-4718, 1, 1}, firstDay}, {date{-4718, 1, 2}, firstDay + 1}, {date{294282, 12, 31}, lastDay}, {date{294282, 12, 30}, lastDay - 1},
	} {
		if n, e := civil.Days(x.at[0], x.at[1], x.at[2]); n != x.n || e != api.OK {
			t.Errorf("Days%v: %d, %v, want %d", x.at, n, e, x.n)
		}
		if y, m, d, e := civil.Date(x.n); (date{y, m, d}) != x.at || e != api.OK {
			t.Errorf("Date(%d): %d, %d, %d, %v, want %v", x.n, y, m, d, e, x.at)
		}
	}
}

// P2.2, P2.3 and P2.4: a day that can not be has no date, no week and no month.
func TestDaysThatCanNotBe(t *testing.T) {
	for _, n := range []int64{firstDay - 1, lastDay + 1, firstDay - 7, lastDay + 7, firstDay - 400, lastDay + 400, -1 << 32, 1 << 32, math.MinInt64, math.MinInt64 + 1, math.MaxInt64, math.MaxInt64 - 1} {
		if y, m, d, e := civil.Date(n); y != 0 || m != 0 || d != 0 || e != api.ErrRange {
			t.Errorf("Date(%d): %d, %d, %d, %v", n, y, m, d, e)
		}
		if d, e := civil.YearDay(n); d != 0 || e != api.ErrRange {
			t.Errorf("YearDay(%d): %d, %v", n, d, e)
		}
		if y, w, e := civil.Week(n); y != 0 || w != 0 || e != api.ErrRange {
			t.Errorf("Week(%d): %d, %d, %v", n, y, w, e)
		}
		for _, months := range []int64{0, 1, -1, 12, -12, math.MinInt64, math.MaxInt64} {
			if x, e := civil.Shift(n, months); x != 0 || e != api.ErrRange {
				t.Errorf("Shift(%d, %d): %d, %v", n, months, x, e)
			}
		}
	}
}

// P2.2 and P2.5: day by day through whole cycles, both ends and the year 0.
func TestDayByDay(t *testing.T) {
	for _, years := range [][2]int64{{-4718, -4310}, {-410, 410}, {1590, 2410}, {293880, 294282}} {
		at, n := date{years[0], 1, 1}, daysOf(t, years[0], 1, 1)
		for at[0] <= years[1] {
			if got, e := civil.Days(at[0], at[1], at[2]); got != n || e != api.OK {
				t.Fatalf("Days%v: %d, %v, want %d", at, got, e, n)
			}
			if y, m, d, e := civil.Date(n); (date{y, m, d}) != at || e != api.OK {
				t.Fatalf("Date(%d): %d, %d, %d, %v, want %v", n, y, m, d, e, at)
			}
			at, n = at.next(), n+1
		}
	}
}

// P2.2, P2.3 and P2.5: every year that can be, from its first day to its last.
func TestYearByYear(t *testing.T) {
	n := int64(firstDay)
	for y := int64(api.FirstYear); y <= api.LastYear; y++ {
		long := int64(365)
		if leap(y) {
			long = 366
		}
		for _, x := range [][3]int64{{1, 1, 0}, {2, 28, 58}, {3, 1, long - 306}, {12, 31, long - 1}} {
			if got, e := civil.Days(y, x[0], x[1]); got != n+x[2] || e != api.OK {
				t.Fatalf("Days(%d, %d, %d): %d, %v, want %d", y, x[0], x[1], got, e, n+x[2])
			}
			if y1, m, d, e := civil.Date(n + x[2]); y1 != y || m != x[0] || d != x[1] || e != api.OK {
				t.Fatalf("Date(%d): %d, %d, %d, %v, want %d, %d, %d", n+x[2], y1, m, d, e, y, x[0], x[1])
			}
			if d, e := civil.YearDay(n + x[2]); d != x[2]+1 || e != api.OK {
				t.Fatalf("YearDay(%d): %d, %v, want %d", n+x[2], d, e, x[2]+1)
			}
		}
		n += long
	}
	if n != lastDay+1 {
		t.Error("the years have", n-firstDay, "days")
	}
}

// P2.3: the day of the week, of any number.
func TestWeekday(t *testing.T) {
	for n, want := range map[int64]int64{0: 6, 1: 0, 2: 1, 6: 5, 7: 6, -1: 5, -6: 0, -7: 6, -8: 5, firstDay: 4, lastDay: 0, math.MaxInt64: 6, math.MaxInt64 - 1: 5, math.MinInt64: 5, math.MinInt64 + 1: 6} {
		if got := civil.Weekday(n); got != want {
			t.Errorf("Weekday(%d): %d, want %d", n, got, want)
		}
	}
	for n := int64(-20000); n <= 20000; n++ {
		if got := civil.Weekday(n); got != int64(timeOf(n).Weekday()) {
			t.Fatalf("Weekday(%d): %d", n, got)
		}
	}
}

// P2.3: the day of the year, and the week, which may belong to another year.
func TestWeekByHand(t *testing.T) {
	for _, x := range []struct {
		at      date
		yearDay int64
		year    int64
		week    int64
	}{
		{date{2021, 1, 3}, 3, 2020, 53}, {date{2021, 1, 4}, 4, 2021, 1},
		{date{2020, 12, 31}, 366, 2020, 53}, {date{2019, 12, 30}, 364, 2020, 1}, {date{2019, 12, 29}, 363, 2019, 52},
		{date{2024, 12, 31}, 366, 2025, 1}, {date{2024, 2, 29}, 60, 2024, 9}, {date{2023, 3, 1}, 60, 2023, 9},
		{date{2023, 1, 1}, 1, 2022, 52}, {date{2016, 1, 3}, 3, 2015, 53}, {date{2000, 1, 1}, 1, 1999, 52}, {date{2000, 1, 3}, 3, 2000, 1},
		{date{0, 1, 1}, 1, -1, 52}, {date{-1, 12, 31}, 365, -1, 52}, {date{0, 1, 3}, 3, 0, 1},
		{date{-4718, 1, 1}, 1, -4718, 1}, {date{-4718, 1, 4}, 4, -4718, 1}, {date{-4718, 1, 5}, 5, -4718, 2},
		{date{-4718, 12, 31}, 365, -4718, 53}, {date{-4717, 1, 1}, 1, -4718, 53}, {date{294282, 1, 1}, 1, 294281, 52},
		{date{294282, 12, 24}, 358, 294282, 51}, {date{294282, 12, 25}, 359, 294282, 52}, {date{294282, 12, 31}, 365, 294282, 52},
	} {
		n := daysOf(t, x.at[0], x.at[1], x.at[2])
		if d, e := civil.YearDay(n); d != x.yearDay || e != api.OK {
			t.Errorf("YearDay of %v: %d, %v, want %d", x.at, d, e, x.yearDay)
		}
		if y, w, e := civil.Week(n); y != x.year || w != x.week || e != api.OK {
			t.Errorf("Week of %v: %d, %d, %v, want %d, %d", x.at, y, w, e, x.year, x.week)
		}
	}
}

// P2.3, held against the library's calendar.
func TestWeekByWeek(t *testing.T) {
	check := func(n int64) {
		at := timeOf(n)
		year, week := at.ISOWeek()
		if y, w, e := civil.Week(n); y != int64(year) || w != int64(week) || e != api.OK {
			t.Fatalf("Week(%d): %d, %d, %v, want %d, %d", n, y, w, e, year, week)
		}
		if d, e := civil.YearDay(n); d != int64(at.YearDay()) || e != api.OK {
			t.Fatalf("YearDay(%d): %d, %v, want %d", n, d, e, at.YearDay())
		}
		if d := civil.Weekday(n); d != int64(at.Weekday()) {
			t.Fatalf("Weekday(%d): %d, want %v", n, d, at.Weekday())
		}
	}
	for i := range int64(150000) {
		check(firstDay + i)
		check(lastDay - i)
		check(i - 75000)
		check(i - 730485 - 75000)
	}
}

// shifted is what Shift must answer, month by month, of a day that can be.
func shifted(n, months int64) (int64, api.Errno) {
	y, m, d, _ := civil.Date(n)
	for ; months > 0; months-- {
		if m++; m == 13 {
			y, m = y+1, 1
		}
	}
	for ; months < 0; months++ {
		if m--; m == 0 {
			y, m = y-1, 12
		}
	}
	for d > 28 && !civil.Right(y, m, d) {
		d--
	}
	return civil.Days(y, m, d)
}

// P2.4, with what must come of it written out.
func TestShiftByHand(t *testing.T) {
	for _, x := range []struct {
		from   date
		months int64
		to     date
	}{
		{date{2024, 1, 31}, 1, date{2024, 2, 29}}, {date{2023, 1, 31}, 1, date{2023, 2, 28}}, {date{2023, 1, 29}, 1, date{2023, 2, 28}},
		{date{2024, 1, 31}, 3, date{2024, 4, 30}}, {date{2024, 1, 31}, 2, date{2024, 3, 31}}, {date{2024, 3, 31}, -1, date{2024, 2, 29}},
		{date{2024, 2, 29}, 12, date{2025, 2, 28}}, {date{2024, 2, 29}, 48, date{2028, 2, 29}}, {date{2024, 2, 29}, -12, date{2023, 2, 28}},
		{date{2024, 2, 29}, 1, date{2024, 3, 29}}, {date{2024, 12, 15}, 1, date{2025, 1, 15}}, {date{2024, 1, 15}, -1, date{2023, 12, 15}},
		{date{0, 1, 31}, -1, date{-1, 12, 31}}, {date{1, 1, 31}, -11, date{0, 2, 29}}, {date{-1, 11, 30}, 3, date{0, 2, 29}},
		{date{-4718, 1, 31}, 0, date{-4718, 1, 31}}, {date{-4718, 1, 31}, 1, date{-4718, 2, 28}}, {date{-4718, 2, 1}, -1, date{-4718, 1, 1}},
		{date{-4718, 1, 1}, 299001*12 - 1, date{294282, 12, 1}}, {date{294282, 12, 31}, 1 - 299001*12, date{-4718, 1, 31}},
		{date{294282, 11, 30}, 1, date{294282, 12, 30}},
	} {
		n := daysOf(t, x.from[0], x.from[1], x.from[2])
		want := daysOf(t, x.to[0], x.to[1], x.to[2])
		if got, e := civil.Shift(n, x.months); got != want || e != api.OK {
			t.Errorf("Shift of %v by %d: %d, %v, want %v", x.from, x.months, got, e, x.to)
		}
	}
}

// P2.4: a month that can not be, of any number of months.
func TestShiftTooFar(t *testing.T) {
	for _, x := range [][2]int64{
		{firstDay, -1}, {firstDay + 30, -1}, {firstDay + 31, -2}, {lastDay, 1}, {lastDay - 30, 1}, {lastDay - 31, 2},
		{firstDay, 299001 * 12}, {firstDay, 299001*12 + 1}, {lastDay, -299001 * 12}, {lastDay, -299001*12 - 1},
		{0, 299001 * 12}, {0, -299001 * 12}, {0, 1 << 32}, {0, -1 << 32}, {0, 1 << 60}, {0, -1 << 60},
		{0, math.MinInt64}, {0, math.MinInt64 + 1}, {0, math.MaxInt64}, {0, math.MaxInt64 - 1},
		{firstDay, math.MinInt64}, {firstDay, math.MaxInt64}, {lastDay, math.MinInt64}, {lastDay, math.MaxInt64},
	} {
		if got, e := civil.Shift(x[0], x[1]); got != 0 || e != api.ErrRange {
			t.Errorf("Shift(%d, %d): %d, %v", x[0], x[1], got, e)
		}
	}
}

// P2.4, held against months that are counted one by one.
func TestShiftMonthByMonth(t *testing.T) {
	r := rand.New(rand.NewSource(3))
	for range 200000 {
		n := firstDay + r.Int63n(lastDay-firstDay+1)
		switch r.Intn(4) {
		case 0:
			n = firstDay + r.Int63n(800)
		case 1:
			n = lastDay - r.Int63n(800)
		}
		months := r.Int63n(101) - 50
		want, wantErr := shifted(n, months)
		if got, e := civil.Shift(n, months); got != want || e != wantErr {
			t.Fatalf("Shift(%d, %d): %d, %v, want %d, %v", n, months, got, e, want, wantErr)
		}
	}
}

// P2.6: by no months, in order, and there and back.
func TestShiftFollows(t *testing.T) {
	for _, start := range []int64{firstDay, -731000, 8400, lastDay - 1500} {
		for _, months := range []int64{0, 1, -1, 2, 5, -7, 11, 12, 13, -12, 48, -1200} {
			before, known := int64(math.MinInt64), false
			for n := start; n < start+1500; n++ {
				got, e := civil.Shift(n, months)
				if months == 0 && (got != n || e != api.OK) {
					t.Fatalf("Shift(%d, 0): %d, %v", n, got, e)
				}
				if e != api.OK {
					continue
				}
				if known && got < before {
					t.Fatalf("Shift(%d, %d): %d is ahead of %d", n, months, got, before)
				}
				before, known = got, true
				_, _, d, _ := civil.Date(n)
				if back, e := civil.Shift(got, -months); d < 29 && (back != n || e != api.OK) {
					t.Fatalf("Shift(%d, %d) and back: %d, %v", n, months, back, e)
				}
			}
		}
	}
}

// P6: every call ends, and none panics; with an error all else is nought.
func TestEveryArgument(t *testing.T) {
	for _, a := range edges() {
		civil.Leap(a)
		if d := civil.Weekday(a); d < 0 || d > 6 {
			t.Errorf("Weekday(%d): %d", a, d)
		}
		_, _, _, e := civil.Date(a)
		if can := a >= firstDay && a <= lastDay; can != (e == api.OK) {
			t.Errorf("Date(%d): %v", a, e)
		}
		for _, b := range edges() {
			if long := civil.Len(a, b); (long >= 28 && long <= 31) != (b >= 1 && b <= 12) {
				t.Errorf("Len(%d, %d): %d", a, b, long)
			}
			if n, e := civil.Shift(a, b); e != api.OK && (n != 0 || e != api.ErrRange) {
				t.Errorf("Shift(%d, %d): %d, %v", a, b, n, e)
			}
			for _, c := range edges() {
				n, e := civil.Days(a, b, c)
				if civil.Right(a, b, c) != (e == api.OK) || e != api.OK && (n != 0 || e != api.ErrRange) {
					t.Errorf("Days(%d, %d, %d): %d, %v", a, b, c, n, e)
				}
			}
		}
	}
}
