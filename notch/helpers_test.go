package notch_test

import (
	"math"
	"slices"
	"testing"

	"systole/api"
	"systole/notch"
)

const (
	most  = math.MaxInt64
	least = math.MinInt64
	bound = 65535
)

// known are the mains that there are.
func known() []int {
	return []int{0, 50, 60}
}

// counts is what a value that came counts as.
func counts(v int64) int64 {
	switch {
	case v < -bound:
		return -bound
	case v > bound:
		return bound
	}
	return v
}

// ago is as what counts what came k steps ago, of all that came.
func ago(came []int64, k int) int64 {
	if k >= len(came) {
		return 0
	}
	return counts(came[len(came)-1-k])
}

// floor is the greatest whole number that is not above a by b, which is above 0.
func floor(a, b int64) int64 {
	whole := a / b
	for whole*b > a {
		whole--
	}
	return whole
}

// comesTo is what the last value comes to, by the chapter's words, of all that came.
func comesTo(mains int, came []int64) int64 {
	switch mains {
	case 50:
		return floor(ago(came, 0)+ago(came, 1)+ago(came, 2)+ago(came, 3), 4)
	case 60:
		return floor(12516*ago(came, 0)+7736*ago(came, 1)+12516*ago(came, 2), 32768)
	}
	return ago(came, 0)
}

// said is what each value of a row comes to, from a place on.
func said(mains int, row []int64, from int) []int64 {
	var l []int64
	for i := from; i < len(row); i++ {
		l = append(l, comesTo(mains, row[:i+1]))
	}
	return l
}

// made is a notch for those mains.
func made(t *testing.T, mains int) *notch.Notch {
	t.Helper()
	x, e := notch.New(mains)
	if e != api.OK || x == nil {
		t.Fatalf("New(%d): %v, error %d", mains, x, e)
	}
	return x
}

// answers hands a row to Block, and looks at what is answered.
func answers(t *testing.T, x *notch.Notch, row []int64, want ...int64) {
	t.Helper()
	got := x.Block(row...)
	if slices.Equal(got, want) {
		return
	}
	if len(got) != len(want) {
		t.Fatalf("mains %d: Block of %d values: %d values", x.Mains(), len(row), len(got))
	}
	for i := range got {
		if got[i] != want[i] {
			t.Fatalf("mains %d: Block of %v, at %d: %d; want %d", x.Mains(), row[max(0, i-5):i+1], i, got[i], want[i])
		}
	}
}

// held is a notch, and all that came to it since it was made, or Reset.
type held struct {
	*notch.Notch
	mains int
	came  []int64
}

// heldOf is a new notch for those mains.
func heldOf(t *testing.T, mains int) *held {
	t.Helper()
	return &held{Notch: made(t, mains), mains: mains}
}

// block hands a row to Block, and holds what is answered against the chapter's words.
func (h *held) block(t *testing.T, row ...int64) {
	t.Helper()
	from := len(h.came)
	h.came = append(h.came, row...)
	answers(t, h.Notch, row, said(h.mains, h.came, from)...)
	h.stays(t)
}

// push lets one value come, and holds what is answered against the chapter's words.
func (h *held) push(t *testing.T, v int64) {
	t.Helper()
	h.came = append(h.came, v)
	if got, want := h.Push(v), comesTo(h.mains, h.came); got != want {
		t.Fatalf("mains %d: Push(%d) behind %v: %d; want %d", h.mains, v, h.came[max(0, len(h.came)-6):len(h.came)-1], got, want)
	}
	h.stays(t)
}

// reset makes it as if nothing had come.
func (h *held) reset(t *testing.T) {
	t.Helper()
	h.Reset()
	h.came = nil
	h.stays(t)
}

// stays looks at what no call changes.
func (h *held) stays(t *testing.T) {
	t.Helper()
	if h.Mains() != h.mains {
		t.Fatalf("Mains: %d; want %d", h.Mains(), h.mains)
	}
}

// edges are values at which something changes: signs, the bounds, and the ends of ranges of bits, among them those whose lower bits are those of small values.
func edges() []int64 {
	l := []int64{0, 1, 2, 3, 4, 5, 100, bound - 4, bound - 1, bound, bound + 1, bound + 2, 2*bound + 1, 1<<17 + 3, most - 1, most}
	for _, k := range []int{15, 16, 31, 32, 47, 48, 50, 61, 62} {
		l = append(l, 1<<k-1, 1<<k, 1<<k+1, 1<<k+7)
	}
	for _, v := range l {
		l = append(l, -v)
	}
	return append(l, least, least+7)
}

// noise hands out numbers of all kinds, the same ones each time.
type noise uint64

// upTo is the next number, from 0 up to n - 1.
func (x *noise) upTo(n int) int {
	if *x == 0 {
		*x = 88172645463325252
	}
	*x ^= *x << 13
	*x ^= *x >> 7
	*x ^= *x << 17
	return int(uint64(*x) >> 11 % uint64(n))
}

// near is a number at most so far from 0, of either sign.
func (x *noise) near(far int) int64 {
	return int64(x.upTo(2*far+1) - far)
}

// whole is a number of 64 bits, of any size and sign.
func (x *noise) whole() int64 {
	return int64(x.upTo(most)<<1+x.upTo(2)) >> x.upTo(64)
}

// atBound is a number at a bound, or a little to either side of it.
func (x *noise) atBound() int64 {
	return int64(2*x.upTo(2)-1)*bound + x.near(3)
}

// row is so many values of one kind, or of all of them.
func (x *noise) row(kind, size int) []int64 {
	ways := []func() int64{
		func() int64 { return x.near(9) },
		func() int64 { return x.near(70000) },
		x.atBound,
		x.whole,
	}
	var l []int64
	for range size {
		way := kind
		if kind >= len(ways) {
			way = x.upTo(len(ways))
		}
		l = append(l, ways[way]())
	}
	return l
}

// rows are long rows, of each kind and of all kinds mixed.
func rows() [][]int64 {
	var x noise
	var l [][]int64
	for kind := range 5 {
		l = append(l, x.row(kind, 1500), x.row(kind, 1501))
	}
	return l
}
