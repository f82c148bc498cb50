package slope_test

import (
	"math"
	"math/big"
	"slices"
	"testing"

	"systole/slope"
)

const (
	most  = math.MaxInt64
	least = math.MinInt64
	bound = 142847
	clamp = 67108864
)

// counts is what a value that came counts as.
func counts(v int64) int64 {
	switch {
	case v < -bound:
		return -bound
	case v > bound:
		return bound
	}
	return v
}

// ago is as what counts what came k steps ago, of all that came.
func ago(came []int64, k int) int64 {
	if k >= len(came) {
		return 0
	}
	return counts(came[len(came)-1-k])
}

// floor is the greatest whole number that is not above a by b, which is above 0.
func floor(a, b int64) int64 {
	whole := a / b
	for whole*b > a {
		whole--
	}
	return whole
}

// comesTo is what the last value comes to, by the chapter's words, of all that came.
func comesTo(came []int64) int64 {
	return floor(2*ago(came, 0)+ago(came, 1)-ago(came, 3)-2*ago(came, 4), 8)
}

// said is what each value of a row comes to, from a place on.
func said(row []int64, from int) []int64 {
	var l []int64
	for i := from; i < len(row); i++ {
		l = append(l, comesTo(row[:i+1]))
	}
	return l
}

// squareOf is d times d, reckoned as if numbers had no end, but at most Clamp.
func squareOf(d int64) int64 {
	whole := new(big.Int).Mul(big.NewInt(d), big.NewInt(d))
	if whole.Cmp(big.NewInt(clamp)) > 0 {
		return clamp
	}
	return whole.Int64()
}

// steepestOf is the greatest distance from 0 of all, reckoned as if numbers had no end, but at most 2^63 - 1.
func steepestOf(l []int64) int64 {
	far := new(big.Int)
	for _, d := range l {
		if one := new(big.Int).Abs(big.NewInt(d)); one.Cmp(far) > 0 {
			far = one
		}
	}
	if !far.IsInt64() {
		return most
	}
	return far.Int64()
}

// made is a new filter.
func made(t *testing.T) *slope.Slope {
	t.Helper()
	x := slope.New()
	if x == nil {
		t.Fatal("New: nil")
	}
	return x
}

// answers hands a row to Block, and looks at what is answered.
func answers(t *testing.T, x *slope.Slope, row []int64, want ...int64) {
	t.Helper()
	got := x.Block(row...)
	if slices.Equal(got, want) {
		return
	}
	if len(got) != len(want) {
		t.Fatalf("Block of %d values: %d values; want %d", len(row), len(got), len(want))
	}
	for i := range got {
		if got[i] != want[i] {
			t.Fatalf("Block of %v, at %d: %d; want %d", row[max(0, i-6):i+1], i, got[i], want[i])
		}
	}
}

// held is a filter, and all that came to it since it was made, or Reset.
type held struct {
	*slope.Slope
	came []int64
}

// heldOf is a new filter.
func heldOf(t *testing.T) *held {
	t.Helper()
	return &held{Slope: made(t)}
}

// block hands a row to Block, and holds what is answered against the chapter's words.
func (h *held) block(t *testing.T, row ...int64) {
	t.Helper()
	from := len(h.came)
	h.came = append(h.came, row...)
	answers(t, h.Slope, row, said(h.came, from)...)
}

// push lets one value come, and holds what is answered against the chapter's words.
func (h *held) push(t *testing.T, v int64) {
	t.Helper()
	h.came = append(h.came, v)
	if got, want := h.Push(v), comesTo(h.came); got != want {
		t.Fatalf("Push(%d) behind %v: %d; want %d", v, h.came[max(0, len(h.came)-7):len(h.came)-1], got, want)
	}
}

// reset makes it as if nothing had come.
func (h *held) reset() {
	h.Reset()
	h.came = nil
}

// edges are values at which something changes: signs, the bounds, and the ends of ranges of bits, among them those whose lower bits are those of small values.
func edges() []int64 {
	l := []int64{0, 1, 2, 3, 4, 5, 7, 8, 9, 100, bound - 8, bound - 3, bound - 2, bound - 1, bound, bound + 1, bound + 2, bound + 3, 2*bound + 1, 1<<18 + 3, most - 1, most}
	for _, k := range []int{15, 16, 31, 32, 47, 48, 60, 61, 62} {
		l = append(l, 1<<k-1, 1<<k, 1<<k+1, 1<<k+7)
	}
	for _, v := range l {
		l = append(l, -v)
	}
	return append(l, least, least+7)
}

// noise hands out numbers of all kinds, the same ones each time.
type noise uint64

// upTo is the next number, from 0 up to n - 1.
func (x *noise) upTo(n int) int {
	if *x == 0 {
		*x = 88172645463325252
	}
	*x ^= *x << 13
	*x ^= *x >> 7
	*x ^= *x << 17
	return int(uint64(*x) >> 11 % uint64(n))
}

// near is a number at most so far from 0, of either sign.
func (x *noise) near(far int) int64 {
	return int64(x.upTo(2*far+1) - far)
}

// whole is a number of 64 bits, of any size and sign.
func (x *noise) whole() int64 {
	return int64(x.upTo(most)<<1+x.upTo(2)) >> x.upTo(64)
}

// atBound is a number at a bound, or a little to either side of it.
func (x *noise) atBound() int64 {
	return int64(2*x.upTo(2)-1)*bound + x.near(3)
}

// kinds are how many kinds of rows there are: near 0, within the bounds and a little beyond, at the bounds, of any size, and of all these kinds mixed.
const kinds = 5

// row is so many values of one kind.
func (x *noise) row(kind, size int) []int64 {
	ways := []func() int64{
		func() int64 { return x.near(9) },
		func() int64 { return x.near(150000) },
		x.atBound,
		x.whole,
	}
	var l []int64
	for range size {
		way := kind
		if kind >= len(ways) {
			way = x.upTo(len(ways))
		}
		l = append(l, ways[way]())
	}
	return l
}

// rows are long rows, of each kind.
func rows() [][]int64 {
	var x noise
	var l [][]int64
	for kind := range kinds {
		l = append(l, x.row(kind, 1500), x.row(kind, 1501))
	}
	return l
}
