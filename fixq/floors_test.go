package fixq_test

import (
	"math"
	"math/big"
	"testing"

	"systole/api"
	"systole/fixq"
)

// P1.3: shifts, also by less than 0 and by more than 63.
func TestShiftAnswers(t *testing.T) {
	for _, c := range []struct {
		n    int64
		k    int
		want int64
	}{
		{-1, 3, -1},
		{9, 2, 2},
		{-9, 2, -3},
		{-8, 2, -2},
		{5, 0, 5},
		{-5, 0, -5},
		{5, -1, 5},
		{-5, -64, -5},
		{least, math.MinInt, least},
		{most, -1, most},
		{most, 62, 1},
		{most, 63, 0},
		{least, 62, -2},
		{least, 63, -1},
		{1, 63, 0},
		{-1, 63, -1},
		{most, 64, 0},
		{least, 64, -1},
		{-9, 99, -1},
		{9, 128, 0},
		{-1, math.MaxInt, -1},
		{most, math.MaxInt, 0},
	} {
		number(t, "Shift", args(c.n, int64(c.k)), fixq.Shift(c.n, c.k), c.want)
	}
}

// P1.3: each edge by each shift is the floor of it by 2^k, held against numbers without an end, as 2^63 is beyond 64 bits.
func TestShiftAgainstWhole(t *testing.T) {
	for _, n := range edges() {
		for k := -70; k <= 140; k++ {
			by := new(big.Int).Lsh(big.NewInt(1), uint(min(max(k, 0), 63)))
			number(t, "Shift", args(n, int64(k)), fixq.Shift(n, k), bigFloor(big.NewInt(n), by).Int64())
		}
	}
}

// P1.3: quotients of all signs, by 0, and the one that does not fit.
func TestDivAnswers(t *testing.T) {
	answered(t, "Div", pair(fixq.Div), []asked{
		{args(7, 2), answer{3, api.OK}},
		{args(-7, 2), answer{-4, api.OK}},
		{args(7, -2), answer{-4, api.OK}},
		{args(-7, -2), answer{3, api.OK}},
		{args(6, 3), answer{2, api.OK}},
		{args(-6, 3), answer{-2, api.OK}},
		{args(6, -3), answer{-2, api.OK}},
		{args(0, 5), answer{0, api.OK}},
		{args(0, -5), answer{0, api.OK}},
		{args(1, most), answer{0, api.OK}},
		{args(-1, most), answer{-1, api.OK}},
		{args(1, least), answer{-1, api.OK}},
		{args(-1, least), answer{0, api.OK}},
		{args(most, least), answer{-1, api.OK}},
		{args(least, most), answer{-2, api.OK}},
		{args(least, least), answer{1, api.OK}},
		{args(most, -1), answer{-most, api.OK}},
		{args(least, 1), answer{least, api.OK}},
		{args(least, -1), answer{0, api.ErrOver}},
		{args(least+1, -1), answer{most, api.OK}},
		{args(1, 0), answer{0, api.ErrArg}},
		{args(0, 0), answer{0, api.ErrArg}},
		{args(-1, 0), answer{0, api.ErrArg}},
		{args(least, 0), answer{0, api.ErrArg}},
		{args(most, 0), answer{0, api.ErrArg}},
	})
}

// P1.3: pairs of edges, held against numbers without an end.
func TestDivAgainstWhole(t *testing.T) {
	l := append(edges(), mixed(256)...)
	for _, a := range l {
		for _, b := range l {
			n, e := fixq.Div(a, b)
			if b == 0 {
				if n != 0 || e != api.ErrArg {
					t.Errorf("Div(%d, 0): %d, error %d", a, n, e)
				}
				continue
			}
			told(t, "Div", args(a, b), bigFloor(big.NewInt(a), big.NewInt(b)), n, e)
		}
	}
}

// P1.3: products by 2^15: ordinary ones, floors below 0, and those that only the nearest number is for.
func TestQ15Answers(t *testing.T) {
	for _, c := range []struct{ a, b, want int32 }{
		{0, 0, 0},
		{1 << 14, 3, 1},
		{1 << 15, 7, 7},
		{1 << 15, -7, -7},
		{-1 << 15, most32, -most32},
		{-1 << 15, least32, most32}, // 2^31, by one beyond
		{1 << 15, least32, least32},
		{-1, 1, -1},
		{1, 1, 0},
		{-1, -1, 0},
		{1 << 14, -1, -1},
		{32767, 1, 0},
		{32767, -1, -1},
		{-32769, 1, -2},
		{1 << 20, 1 << 20, 1 << 25},
		{1<<15 + 1, most32, most32},
		{1<<15 + 1, least32, least32},
		{most32, most32, most32},
		{least32, most32, least32},
		{most32, least32, least32},
		{least32, least32, most32},
		{1 << 23, 1 << 23, most32},       // 2^31, whose lower 32 bits are the least number
		{1 << 24, 1 << 24, most32},       // 2^33, whose lower 32 bits are 0
		{-1 << 24, 1 << 24, least32},     // likewise, below
		{1 << 23, -1 << 23, least32},     // just that
		{1<<23 + 1, -1 << 23, least32},   // just below
		{1<<23 - 1, 1 << 23, 2147483392}, // just fits
	} {
		number(t, "Q15", args(int64(c.a), int64(c.b)), fixq.Q15(c.a, c.b), c.want)
	}
}

// P1.3: pairs of edges of 32 bits, held against numbers without an end.
func TestQ15AgainstWhole(t *testing.T) {
	l := edges32()
	for _, a := range l {
		for _, b := range l {
			whole := bigFloor(bigProduct(int64(a), int64(b)), big.NewInt(1<<15))
			number(t, "Q15", args(int64(a), int64(b)), fixq.Q15(a, b), bigNear(whole))
		}
	}
}
