// Package fixq is layer 1: whole numbers of 32 and 64 bits, checked, so that a result that does not fit is told, or saturated, so that it is the nearest one that does.
package fixq

import (
	"math"
	"math/bits"
	"slices"

	"systole/api"
)

// Add is the sum of all numbers (of none 0), or ErrOver, if that does not fit.
func Add(l ...int64) (int64, api.Errno) {
	// A sum may leave the range and come back: two words together have room for whatever is met on the way.
	var high, low uint64
	for _, n := range l {
		var carry uint64
		low, carry = bits.Add64(low, uint64(n), 0)
		high += signWord(n) + carry
	}
	sum := int64(low)
	if high != signWord(sum) {
		return 0, api.ErrOver
	}
	return sum, api.OK
}

// Sub is a less b, or ErrOver, if that does not fit.
func Sub(a, b int64) (int64, api.Errno) {
	less := a - b
	// Numbers of one sign are never too far apart; of two signs the difference has a's sign, if it did not wrap round.
	if (a < 0) != (b < 0) && (less < 0) != (a < 0) {
		return 0, api.ErrOver
	}
	return less, api.OK
}

// Mul is the product of all numbers (of none 1), or ErrOver, if that does not fit.
func Mul(l ...int64) (int64, api.Errno) {
	// A 0 takes back whatever is met ahead of it, so it is looked for first; without one a product never comes nearer to 0 again.
	if slices.Contains(l, 0) {
		return 0, api.OK
	}
	size, below := uint64(1), false
	for _, n := range l {
		high, low := bits.Mul64(size, magnitude(n))
		if high != 0 {
			return 0, api.ErrOver
		}
		size = low
		below = below != (n < 0)
	}
	return signed(size, below)
}

// Fit is n as a number of 32 bits, or ErrOver, if it does not fit them.
func Fit(n int64) (int32, api.Errno) {
	near := Near(n)
	if int64(near) != n {
		return 0, api.ErrOver
	}
	return near, api.OK
}

// Near is the number of 32 bits that is the nearest one to n.
func Near(n int64) int32 {
	return int32(Clamp(n, math.MinInt32, math.MaxInt32))
}

// Clamp is n, or the end of lo to hi that it is beyond; lo, if the ends are the wrong way round.
func Clamp(n, lo, hi int64) int64 {
	if n < lo || lo > hi {
		return lo
	}
	if n > hi {
		return hi
	}
	return n
}

// Shift is the floor of n by 2^k; a k below 0 is as 0, one above 63 as 63.
func Shift(n int64, k int) int64 {
	// Go panics at a count below 0; one above 63 leaves nothing but the sign, as 63 does.
	if k < 0 {
		return n
	}
	return n >> k
}

// Div is the floor of a by b: ErrArg, if b is 0; ErrOver, if it does not fit.
func Div(a, b int64) (int64, api.Errno) {
	if b == 0 {
		return 0, api.ErrArg
	}
	if a == math.MinInt64 && b == -1 {
		return 0, api.ErrOver
	}
	floor, rest := a/b, a%b
	// Go's division goes towards 0: that is above the floor where there is a rest and the signs are unlike.
	if rest != 0 && (a < 0) != (b < 0) {
		floor--
	}
	return floor, api.OK
}

// Q15 is the floor of a times b by 2^15, or the number of 32 bits that is nearest to that.
func Q15(a, b int32) int32 {
	return Near(Shift(int64(a)*int64(b), 15))
}

// Root is the floor of the square root of n; of one below 0 it is 0.
func Root(n int64) int64 {
	if n < 0 {
		return 0
	}
	// Bit by bit, without a sign: a root has 32 bits at most, so that the square of whatever is tried fits.
	var root uint64
	for bit := uint64(1) << 31; bit > 0; bit >>= 1 {
		more := root + bit
		if more*more <= uint64(n) {
			root = more
		}
	}
	return int64(root)
}

// signWord is the upper one of the two words that n fills.
func signWord(n int64) uint64 {
	return uint64(n >> 63)
}

// magnitude is how far n is from 0: -2^63 has none among numbers with a sign.
func magnitude(n int64) uint64 {
	if n < 0 {
		return -uint64(n)
	}
	return uint64(n)
}

// signed is the number that is so far from 0, on that side, or ErrOver: below 0 there is one more than above.
func signed(size uint64, below bool) (int64, api.Errno) {
	n := int64(size)
	if below {
		n = -n
	}
	// A size for which there is no number wraps round to the other side.
	if (n < 0) != below {
		return 0, api.ErrOver
	}
	return n, api.OK
}
