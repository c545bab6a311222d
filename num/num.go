// Package num is layer 1: whole numbers that do not go round. See shared/doc/01-num.md.
package num

import (
	"math"
	"math/bits"

	"computus/api"
)

// Add is a and b, if that is an int64.
func Add(a, b int64) (int64, api.Errno) {
	sum := a + b
	if (sum < a) != (b < 0) {
		return 0, api.ErrRange
	}
	return sum, api.OK
}

// Sub is a less b, if that is an int64.
func Sub(a, b int64) (int64, api.Errno) {
	rest := a - b
	if (rest > a) != (b < 0) {
		return 0, api.ErrRange
	}
	return rest, api.OK
}

// Mul is a times b, if that is an int64.
func Mul(a, b int64) (int64, api.Errno) {
	halves := product(a, b)
	if halves[0] != 0 {
		return 0, api.ErrRange
	}
	return signed((a < 0) != (b < 0), halves[1])
}

// Div is the greatest whole number that is not above a by b.
func Div(a, b int64) (int64, api.Errno) {
	if b == 0 {
		return 0, api.ErrZero
	}
	// The only quotient of two int64s that is none.
	if a == math.MinInt64 && b == -1 {
		return 0, api.ErrRange
	}
	if rest := a % b; rest != 0 && (rest < 0) != (b < 0) {
		return a/b - 1, api.OK
	}
	return a / b, api.OK
}

// Mod is what Div leaves of a, also where Div's own answer is no int64.
func Mod(a, b int64) (int64, api.Errno) {
	if b == 0 {
		return 0, api.ErrZero
	}
	rest := a % b
	if rest != 0 && (rest < 0) != (b < 0) {
		rest += b
	}
	return rest, api.OK
}

// Neg is a with the other sign.
func Neg(a int64) (int64, api.Errno) {
	if a == math.MinInt64 {
		return 0, api.ErrRange
	}
	return -a, api.OK
}

// Scale is the greatest whole number that is not above a times b by c.
func Scale(a, b, c int64) (int64, api.Errno) {
	if c == 0 {
		return 0, api.ErrZero
	}
	halves, by := product(a, b), size(c)
	// Else the quotient has more than 64 bits, which Div64 can not tell.
	if halves[0] >= by {
		return 0, api.ErrRange
	}
	often, rest := bits.Div64(halves[0], halves[1], by)
	below := (a < 0) != (b < 0) != (c < 0)
	if below && rest != 0 {
		if often == math.MaxUint64 {
			return 0, api.ErrRange
		}
		often++
	}
	return signed(below, often)
}

// Sum is the sum of all of l. Where a list is too long and its sum is no
// int64 either, ErrRange is the error that the document names first.
func Sum(l []int64) (int64, api.Errno) {
	// The high and the low half of the sum, with a sign, as the sums on the
	// way may leave the int64s.
	var halves [2]uint64
	for i := range len(l) {
		low, carry := bits.Add64(halves[1], uint64(l[i]), 0)
		halves[0] += signHalf(l[i]) + carry
		halves[1] = low
	}
	sum := int64(halves[1])
	if halves[0] != signHalf(sum) {
		return 0, api.ErrRange
	}
	if len(l) > api.MaxGrow {
		return 0, api.ErrSize
	}
	return sum, api.OK
}

// Split parts microseconds into whole days and what is left of a day.
func Split(us int64) (int64, int64) {
	days, _ := Div(us, api.DayMicro)
	rest, _ := Mod(us, api.DayMicro)
	return days, rest
}

// size is how far a is from nought; an unsigned number, as that of the least
// int64 is no int64.
func size(a int64) uint64 {
	if a < 0 {
		return -uint64(a)
	}
	return uint64(a)
}

// product is the high and the low half of the size of a times b.
func product(a, b int64) [2]uint64 {
	var halves [2]uint64
	halves[0], halves[1] = bits.Mul64(size(a), size(b))
	return halves
}

// signed is the number of that size, below nought or not, if it is an int64.
func signed(below bool, size uint64) (int64, api.Errno) {
	const least = 1 << 63 // the size of the least int64
	if size > least || size == least && !below {
		return 0, api.ErrRange
	}
	if below {
		return int64(-size), api.OK
	}
	return int64(size), api.OK
}

// signHalf is the half that stands ahead of a, when a is written in two.
func signHalf(a int64) uint64 {
	if a < 0 {
		return math.MaxUint64
	}
	return 0
}
