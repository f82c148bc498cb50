package fixq_test

import (
	"math/big"
	"testing"

	"systole/fixq"
)

// P1.4: roots of none, of squares, and of what is around them; the greatest ones; below 0 there is none.
func TestRootAnswers(t *testing.T) {
	for _, c := range []struct{ n, want int64 }{
		{0, 0},
		{1, 1},
		{2, 1},
		{3, 1},
		{4, 2},
		{16, 4},
		{99, 9},
		{100, 10},
		{1<<62 - 1, 1<<31 - 1},
		{1 << 62, 1 << 31},
		{1<<62 + 1, 1 << 31},
		{3037000499*3037000499 - 1, 3037000498},
		{3037000499 * 3037000499, 3037000499},
		{most - 1, 3037000499},
		{most, 3037000499},
		{-1, 0},
		{-4, 0},
		{least, 0},
		{least + 1, 0},
	} {
		number(t, "Root", args(c.n), fixq.Root(c.n), c.want)
	}
}

// P1.4: each root from 0 on begins at its square.
func TestRootRises(t *testing.T) {
	root := int64(0)
	for n := range int64(100000) {
		if n == (root+1)*(root+1) {
			root++
		}
		number(t, "Root", args(n), fixq.Root(n), root)
	}
}

// P1.4: edges and numbers of all sizes, and the squares of roots and what is just below them, held against numbers without an end.
func TestRootAgainstWhole(t *testing.T) {
	for _, n := range append(edges(), mixed(4096)...) {
		want := int64(0)
		if n > 0 {
			want = new(big.Int).Sqrt(big.NewInt(n)).Int64()
		}
		number(t, "Root", args(n), fixq.Root(n), want)
	}
	for root := int64(3037000499); root > 3036990000; root-- {
		number(t, "Root", args(root*root), fixq.Root(root*root), root)
		number(t, "Root", args(root*root-1), fixq.Root(root*root-1), root-1)
	}
}
