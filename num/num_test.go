package num_test

import (
	"math"
	"math/big"
	"math/rand"
	"slices"
	"testing"

	"computus/api"
	"computus/num"
)

const (
	least    = math.MinInt64
	greatest = math.MaxInt64
)

// answer is what a call of one number and an error told.
type answer struct {
	n int64
	e api.Errno
}

func told(n int64, e api.Errno) answer { return answer{n, e} }

// whole is what a call must answer of which comes a whole number of any size.
func whole(x *big.Int) answer {
	if !x.IsInt64() {
		return answer{0, api.ErrRange}
	}
	return answer{x.Int64(), api.OK}
}

// below is the greatest whole number that is not above x by y, and the rest.
func below(x, y *big.Int) (*big.Int, *big.Int) {
	often, rest := new(big.Int).QuoRem(x, y, new(big.Int))
	if rest.Sign() != 0 && rest.Sign() != y.Sign() {
		often.Sub(often, big.NewInt(1))
		rest.Add(rest, y)
	}
	return often, rest
}

// numbers are the edges, and some between them, always the same.
func numbers() []int64 {
	l := []int64{0, api.DayMicro, -api.DayMicro, api.DayMicro - 1, 1 - api.DayMicro, 3037000499, 3037000500, -3037000500}
	for i := range int64(4) {
		l = append(l, i, -i, least+i, greatest-i, 1<<31-i, 1<<31+i, -1<<31-i, -1<<31+i, 1<<32-i, 1<<32+i, 1<<62-i, 1<<62+i, -1<<62-i, -1<<62+i, least/2+i)
	}
	r := rand.New(rand.NewSource(1))
	for range 40 {
		l = append(l, int64(r.Uint64()>>r.Intn(64)), -int64(r.Uint64()>>r.Intn(64)))
	}
	slices.Sort(l)
	return slices.Compact(l)
}

func check(t *testing.T, name string, got, want answer, arguments ...int64) {
	t.Helper()
	if got != want {
		t.Errorf("%s%v: %v, want %v", name, arguments, got, want)
	}
}

// P1.1, of all pairs of the numbers.
func TestPairs(t *testing.T) {
	for _, a := range numbers() {
		x := big.NewInt(a)
		check(t, "Neg", told(num.Neg(a)), whole(new(big.Int).Neg(x)), a)
		for _, b := range numbers() {
			y := big.NewInt(b)
			check(t, "Add", told(num.Add(a, b)), whole(new(big.Int).Add(x, y)), a, b)
			check(t, "Sub", told(num.Sub(a, b)), whole(new(big.Int).Sub(x, y)), a, b)
			check(t, "Mul", told(num.Mul(a, b)), whole(new(big.Int).Mul(x, y)), a, b)
			if b == 0 {
				check(t, "Div", told(num.Div(a, b)), answer{0, api.ErrZero}, a, b)
				check(t, "Mod", told(num.Mod(a, b)), answer{0, api.ErrZero}, a, b)
				continue
			}
			often, rest := below(x, y)
			check(t, "Div", told(num.Div(a, b)), whole(often), a, b)
			check(t, "Mod", told(num.Mod(a, b)), whole(rest), a, b)
		}
	}
}

// P1.1, with what must come of it written out.
func TestPairsByHand(t *testing.T) {
	check(t, "Add", told(num.Add(greatest, 0)), answer{greatest, api.OK})
	check(t, "Add", told(num.Add(greatest, 1)), answer{0, api.ErrRange})
	check(t, "Add", told(num.Add(least, -1)), answer{0, api.ErrRange})
	check(t, "Add", told(num.Add(least, greatest)), answer{-1, api.OK})
	check(t, "Sub", told(num.Sub(-1, least)), answer{greatest, api.OK})
	check(t, "Sub", told(num.Sub(0, least)), answer{0, api.ErrRange})
	check(t, "Sub", told(num.Sub(least, 1)), answer{0, api.ErrRange})
	check(t, "Mul", told(num.Mul(least, 1)), answer{least, api.OK})
	check(t, "Mul", told(num.Mul(least, -1)), answer{0, api.ErrRange})
	check(t, "Mul", told(num.Mul(-1, least)), answer{0, api.ErrRange})
	check(t, "Mul", told(num.Mul(1<<62, -2)), answer{least, api.OK})
	check(t, "Mul", told(num.Mul(1<<62, 2)), answer{0, api.ErrRange})
	check(t, "Mul", told(num.Mul(1<<32, 1<<32)), answer{0, api.ErrRange})
	check(t, "Mul", told(num.Mul(0, least)), answer{0, api.OK})
	check(t, "Neg", told(num.Neg(least)), answer{0, api.ErrRange})
	check(t, "Neg", told(num.Neg(greatest)), answer{-greatest, api.OK})
	check(t, "Div", told(num.Div(-7, 2)), answer{-4, api.OK})
	check(t, "Div", told(num.Div(7, -2)), answer{-4, api.OK})
	check(t, "Div", told(num.Div(-7, -2)), answer{3, api.OK})
	check(t, "Div", told(num.Div(-8, 2)), answer{-4, api.OK})
	check(t, "Div", told(num.Div(least, -1)), answer{0, api.ErrRange})
	check(t, "Div", told(num.Div(least, 1)), answer{least, api.OK})
	check(t, "Div", told(num.Div(least, 0)), answer{0, api.ErrZero})
	check(t, "Div", told(num.Div(0, 0)), answer{0, api.ErrZero})
	check(t, "Mod", told(num.Mod(-7, 2)), answer{1, api.OK})
	check(t, "Mod", told(num.Mod(7, -2)), answer{-1, api.OK})
	check(t, "Mod", told(num.Mod(-7, -2)), answer{-1, api.OK})
	check(t, "Mod", told(num.Mod(least, -1)), answer{0, api.OK})
	check(t, "Mod", told(num.Mod(1, least)), answer{least + 1, api.OK})
	check(t, "Mod", told(num.Mod(5, 0)), answer{0, api.ErrZero})
}

// P1.2, of all triples of the numbers.
func TestScale(t *testing.T) {
	for _, a := range numbers() {
		for _, b := range numbers() {
			product := new(big.Int).Mul(big.NewInt(a), big.NewInt(b))
			for _, c := range numbers() {
				if c == 0 {
					check(t, "Scale", told(num.Scale(a, b, c)), answer{0, api.ErrZero}, a, b, c)
					continue
				}
				often, _ := below(product, big.NewInt(c))
				check(t, "Scale", told(num.Scale(a, b, c)), whole(often), a, b, c)
			}
		}
	}
}

// P1.2, with what must come of it written out.
func TestScaleByHand(t *testing.T) {
	check(t, "Scale", told(num.Scale(1<<62, 3, 4)), answer{3458764513820540928, api.OK})
	check(t, "Scale", told(num.Scale(1<<62, 9, 4)), answer{0, api.ErrRange})
	check(t, "Scale", told(num.Scale(least, least, least)), answer{least, api.OK})
	check(t, "Scale", told(num.Scale(least, least, greatest)), answer{0, api.ErrRange})
	check(t, "Scale", told(num.Scale(least, greatest, -greatest)), answer{0, api.ErrRange})
	check(t, "Scale", told(num.Scale(least, -1, -1)), answer{least, api.OK})
	check(t, "Scale", told(num.Scale(least, 1, -1)), answer{0, api.ErrRange})
	check(t, "Scale", told(num.Scale(-7, 1, 2)), answer{-4, api.OK})
	check(t, "Scale", told(num.Scale(7, 1, -2)), answer{-4, api.OK})
	check(t, "Scale", told(num.Scale(-7, 1, -2)), answer{3, api.OK})
	check(t, "Scale", told(num.Scale(-1, 1, greatest)), answer{-1, api.OK})
	check(t, "Scale", told(num.Scale(0, -5, 3)), answer{0, api.OK})
	check(t, "Scale", told(num.Scale(least, least, 0)), answer{0, api.ErrZero})
	// A half below the least int64 (2^64 + 1 by 2), and a half above it.
	check(t, "Scale", told(num.Scale(-67280421310721, 274177, 2)), answer{0, api.ErrRange})
	check(t, "Scale", told(num.Scale(-6148914691236517205, 3, 2)), answer{least, api.OK})
	// A half above the greatest int64 (2^64 - 1 by 2).
	check(t, "Scale", told(num.Scale(6148914691236517205, 3, 2)), answer{greatest, api.OK})
	// The size of the quotient is 2^64 - 1, with something left.
	check(t, "Scale", told(num.Scale(-1190112520884487201, 31, 2)), answer{0, api.ErrRange})
	check(t, "Scale", told(num.Scale(1190112520884487201, 31, -2)), answer{0, api.ErrRange})
	check(t, "Scale", told(num.Scale(1190112520884487201, 31, 2)), answer{0, api.ErrRange})
}

func filled(n int, x int64) []int64 {
	l := make([]int64, n)
	for i := range l {
		l[i] = x
	}
	return l
}

// P1.3: whatever the sums on the way are.
func TestSum(t *testing.T) {
	for _, x := range []struct {
		l    []int64
		want answer
	}{
		{nil, answer{0, api.OK}},
		{[]int64{}, answer{0, api.OK}},
		{[]int64{-5}, answer{-5, api.OK}},
		{[]int64{1, 2, 3}, answer{6, api.OK}},
		{[]int64{greatest, 5, -5}, answer{greatest, api.OK}},
		{[]int64{least, -5, 5}, answer{least, api.OK}},
		{[]int64{greatest, greatest, greatest, least, least, least}, answer{-3, api.OK}},
		{[]int64{least, least, greatest, greatest, 2}, answer{0, api.OK}},
		{[]int64{greatest, 1}, answer{0, api.ErrRange}},
		{[]int64{least, -1}, answer{0, api.ErrRange}},
		{[]int64{least, least}, answer{0, api.ErrRange}},
		{[]int64{greatest, greatest, 2}, answer{0, api.ErrRange}},
		{filled(4, 1<<62), answer{0, api.ErrRange}},
		{filled(2, -1<<62), answer{least, api.OK}},
		{filled(api.MaxGrow, 7), answer{7 * api.MaxGrow, api.OK}},
		{filled(api.MaxGrow, -1), answer{-api.MaxGrow, api.OK}},
		{filled(api.MaxGrow, greatest), answer{0, api.ErrRange}},
		{filled(api.MaxGrow, least), answer{0, api.ErrRange}},
		{append(filled(api.MaxGrow/2, greatest), filled(api.MaxGrow/2, -greatest)...), answer{0, api.OK}},
		{filled(api.MaxGrow+1, 0), answer{0, api.ErrSize}},
		{filled(api.MaxGrow+1, 7), answer{0, api.ErrSize}},
		{filled(2*api.MaxGrow, -1), answer{0, api.ErrSize}},
		// Both errors apply: ErrRange is named first.
		{filled(api.MaxGrow+1, greatest), answer{0, api.ErrRange}},
	} {
		kept := slices.Clone(x.l)
		if got := told(num.Sum(x.l)); got != x.want {
			t.Errorf("Sum of %d, %v: %v, want %v", len(x.l), x.l[:min(6, len(x.l))], got, x.want)
		}
		if !slices.Equal(kept, x.l) {
			t.Error("Sum changed the list that it was handed")
		}
	}
}

// P1.3, of lists by chance, held against numbers of any size.
func TestSumOfMany(t *testing.T) {
	r, some := rand.New(rand.NewSource(2)), numbers()
	for range 3000 {
		l := make([]int64, r.Intn(9))
		total := new(big.Int)
		for i := range l {
			l[i] = some[r.Intn(len(some))]
			total.Add(total, big.NewInt(l[i]))
		}
		check(t, "Sum", told(num.Sum(l)), whole(total), l...)
	}
}

// P1.3: days, and what is left of a day, which is not below 0.
func TestSplit(t *testing.T) {
	for _, x := range [][3]int64{
		{0, 0, 0},
		{1, 0, 1},
		{-1, -1, 86399999999},
		{86399999999, 0, 86399999999},
		{86400000000, 1, 0},
		{-86400000000, -1, 0},
		{-86400000001, -2, 86399999999},
		{greatest, 106751991, 14454775807},
		{least, -106751992, 71945224192},
	} {
		if d, us := num.Split(x[0]); d != x[1] || us != x[2] {
			t.Errorf("Split(%d): %d, %d, want %d, %d", x[0], d, us, x[1], x[2])
		}
	}
	for _, us := range numbers() {
		often, rest := below(big.NewInt(us), big.NewInt(86400000000))
		if d, left := num.Split(us); d != often.Int64() || left != rest.Int64() {
			t.Errorf("Split(%d): %d, %d, want %v, %v", us, d, left, often, rest)
		}
	}
}

// P1.4: Scale by the same is the number; Div and Mod make the number again.
func TestWhatFollows(t *testing.T) {
	for _, a := range numbers() {
		for _, b := range numbers() {
			if b == 0 {
				continue
			}
			check(t, "Scale", told(num.Scale(a, b, b)), answer{a, api.OK}, a, b, b)
			often, e := num.Div(a, b)
			if e != api.OK {
				continue
			}
			rest, _ := num.Mod(a, b)
			back := new(big.Int).Mul(big.NewInt(b), big.NewInt(often))
			back.Add(back, big.NewInt(rest))
			if back.Cmp(big.NewInt(a)) != 0 {
				t.Errorf("%d times %d and %d is %v, not %d", b, often, rest, back, a)
			}
		}
	}
}
