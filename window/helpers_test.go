package window_test

import (
	"math"
	"slices"
	"testing"

	"systole/window"
)

const (
	most  = math.MaxInt64
	least = math.MinInt64
	clamp = 67108864
	bound = 62914560
)

// counts is what a value that came counts as.
func counts(v int64) int64 {
	switch {
	case v < 0:
		return 0
	case v > clamp:
		return clamp
	}
	return v
}

// ago is as what counts what came k steps ago, of all that came.
func ago(came []int64, k int) int64 {
	if k >= len(came) {
		return 0
	}
	return counts(came[len(came)-1-k])
}

// floor is the greatest whole number that is not above a by b, which is above 0.
func floor(a, b int64) int64 {
	whole := a / b
	for whole*b > a {
		whole--
	}
	return whole
}

// sum is the sum of what came in the last thirty steps, of all that came.
func sum(came []int64) int64 {
	var all int64
	for k := range 30 {
		all += ago(came, k)
	}
	return all
}

// comesTo is what the last value comes to, by the chapter's words, of all that came; of none it is what Last is.
func comesTo(came []int64) int64 {
	return floor(sum(came), 32)
}

// said is what each value of a row comes to, from a place on.
func said(row []int64, from int) []int64 {
	var l []int64
	for i := from; i < len(row); i++ {
		l = append(l, comesTo(row[:i+1]))
	}
	return l
}

// times is a row of one value, again and again.
func times(v int64, many int) []int64 {
	return slices.Repeat([]int64{v}, many)
}

// made is a new window.
func made(t *testing.T) *window.Window {
	t.Helper()
	x := window.New()
	if x == nil {
		t.Fatal("New: nil")
	}
	return x
}

// answers hands a row to Block, and looks at what is answered.
func answers(t *testing.T, x *window.Window, row []int64, want ...int64) {
	t.Helper()
	got := x.Block(row...)
	if slices.Equal(got, want) {
		return
	}
	if len(got) != len(want) {
		t.Fatalf("Block of %d values: %d values; want %d", len(row), len(got), len(want))
	}
	for i := range got {
		if got[i] != want[i] {
			t.Fatalf("Block of %v, at %d: %d; want %d", row[max(0, i-31):i+1], i, got[i], want[i])
		}
	}
}

// lastIs asks for Last, twice in a row.
func lastIs(t *testing.T, x *window.Window, want int64) {
	t.Helper()
	for range 2 {
		if got := x.Last(); got != want {
			t.Fatalf("Last: %d; want %d", got, want)
		}
	}
}

// held is a window, and all that came to it since it was made, or Reset.
type held struct {
	*window.Window
	came []int64
}

// heldOf is a new window.
func heldOf(t *testing.T) *held {
	t.Helper()
	return &held{Window: made(t)}
}

// block hands a row to Block, and holds what is answered, and Last, against the chapter's words.
func (h *held) block(t *testing.T, row ...int64) {
	t.Helper()
	from := len(h.came)
	h.came = append(h.came, row...)
	answers(t, h.Window, row, said(h.came, from)...)
	lastIs(t, h.Window, comesTo(h.came))
}

// push lets one value come, and holds what is answered, and Last, against the chapter's words.
func (h *held) push(t *testing.T, v int64) {
	t.Helper()
	h.came = append(h.came, v)
	if got, want := h.Push(v), comesTo(h.came); got != want {
		t.Fatalf("Push(%d) behind %v: %d; want %d", v, h.came[max(0, len(h.came)-32):len(h.came)-1], got, want)
	}
	lastIs(t, h.Window, comesTo(h.came))
}

// reset makes it as if nothing had come, and looks at Last.
func (h *held) reset(t *testing.T) {
	t.Helper()
	h.Reset()
	h.came = nil
	lastIs(t, h.Window, 0)
}

// edges are values at which something changes: signs, Clamp, and the ends of ranges of bits, among them those whose lower bits are those of small values.
func edges() []int64 {
	l := []int64{0, 1, 2, 15, 16, 31, 32, 33, 63, 64, 100, bound, clamp - 33, clamp - 32, clamp - 31, clamp - 1, clamp, clamp + 1, clamp + 31, clamp + 32, 2*clamp - 1, 2 * clamp, most - 1, most}
	for _, k := range []int{15, 16, 27, 31, 32, 47, 48, 58, 59, 61, 62} {
		l = append(l, 1<<k-1, 1<<k, 1<<k+1, 1<<k+77)
	}
	for _, v := range l {
		l = append(l, -v)
	}
	return append(l, least, least+7)
}

// noise hands out numbers of all kinds, the same ones each time.
type noise uint64

// upTo is the next number, from 0 up to n - 1.
func (x *noise) upTo(n int) int {
	if *x == 0 {
		*x = 88172645463325252
	}
	*x ^= *x << 13
	*x ^= *x >> 7
	*x ^= *x << 17
	return int(uint64(*x) >> 11 % uint64(n))
}

// near is a number at most so far from 0, of either sign.
func (x *noise) near(far int) int64 {
	return int64(x.upTo(2*far+1) - far)
}

// square is a number from a little below 0 to a little above Clamp.
func (x *noise) square() int64 {
	return int64(x.upTo(clamp+2000000)) - 1000000
}

// whole is a number of 64 bits, of any size and sign.
func (x *noise) whole() int64 {
	return int64(x.upTo(most)<<1+x.upTo(2)) >> x.upTo(64)
}

// atBound is 0 or Clamp, or a little to either side of it.
func (x *noise) atBound() int64 {
	return int64(x.upTo(2))*clamp + x.near(3)
}

// kinds are how many kinds of rows there are: near 0, above 0, within the bounds and a little beyond, at the bounds, of any size, and of all these kinds mixed.
const (
	kinds = 6
	mixed = kinds - 1
)

// row is so many values of one kind.
func (x *noise) row(kind, size int) []int64 {
	ways := []func() int64{
		func() int64 { return x.near(20) },
		func() int64 { return int64(x.upTo(5000)) },
		x.square,
		x.atBound,
		x.whole,
	}
	var l []int64
	for range size {
		way := kind
		if kind >= len(ways) {
			way = x.upTo(len(ways))
		}
		l = append(l, ways[way]())
	}
	return l
}

// rows are long rows, of each kind.
func rows() [][]int64 {
	var x noise
	var l [][]int64
	for kind := range kinds {
		l = append(l, x.row(kind, 1500), x.row(kind, 1501))
	}
	return l
}
