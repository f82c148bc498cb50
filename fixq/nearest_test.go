package fixq_test

import (
	"math/big"
	"testing"

	"systole/fixq"
)

// P1.2: the nearest number of 32 bits.
func TestNear(t *testing.T) {
	for _, c := range []struct {
		n    int64
		want int32
	}{
		{0, 0},
		{-1, -1},
		{12345, 12345},
		{most32, most32},
		{most32 + 1, most32},
		{least32, least32},
		{least32 - 1, least32},
		{1 << 32, most32},
		{-1 << 32, least32},
		{1<<40 + 3, most32},
		{most, most32},
		{least, least32},
	} {
		number(t, "Near", args(c.n), fixq.Near(c.n), c.want)
	}
	for _, n := range edges() {
		number(t, "Near", args(n), fixq.Near(n), bigNear(big.NewInt(n)))
	}
}

// P1.2: a number between bounds, at them, and beyond them; bounds of one number, and the wrong way round.
func TestClamp(t *testing.T) {
	for _, c := range []struct{ n, lo, hi, want int64 }{
		{2, 1, 3, 2},
		{1, 1, 3, 1},
		{3, 1, 3, 3},
		{0, 1, 3, 1},
		{4, 1, 3, 3},
		{-5, -9, -7, -7},
		{-50, -9, -7, -9},
		{7, 7, 7, 7},
		{6, 7, 7, 7},
		{8, 7, 7, 7},
		{0, least, most, 0},
		{least, least, most, least},
		{most, least, most, most},
		{most, least, least, least},
		{least, most, most, most},
		{2, 3, 1, 3},
		{0, 3, 1, 3},
		{3, 3, 1, 3},
		{9, 3, 1, 3},
		{0, most, least, most},
		{least, most, least, most},
		{most, most, least, most},
		{5, -1, -2, -1},
	} {
		number(t, "Clamp", args(c.n, c.lo, c.hi), fixq.Clamp(c.n, c.lo, c.hi), c.want)
	}
}

// P1.2: triples of edges: never beyond a bound, never moved without need.
func TestClampAgainstWords(t *testing.T) {
	few := fewEdges()
	for _, n := range few {
		for _, lo := range few {
			for _, hi := range few {
				want := n
				switch {
				case lo > hi, n < lo:
					want = lo
				case n > hi:
					want = hi
				}
				number(t, "Clamp", args(n, lo, hi), fixq.Clamp(n, lo, hi), want)
			}
		}
	}
}
