package chain_test

import (
	"math"
	"slices"
	"testing"

	"systole/api"
	"systole/chain"
)

const (
	most  = math.MaxInt32
	least = math.MinInt32
	top   = 32767
	foot  = -32768
)

// known are the mains that there are.
func known() []int {
	return []int{0, 50, 60}
}

// nearest is v, or the nearer one of two ends.
func nearest(v, from, to int64) int64 {
	switch {
	case v < from:
		return from
	case v > to:
		return to
	}
	return v
}

// floor is the greatest whole number that is not above a by b, which is above 0.
func floor(a, b int64) int64 {
	whole := a / b
	for whole*b > a {
		whole--
	}
	return whole
}

// row is all that came to one of the filters; each value counts as the nearest number from least to most.
type row struct {
	came        []int64
	least, most int64
}

// ago is as what counts what came k steps ago.
func (r *row) ago(k int) int64 {
	if k >= len(r.came) {
		return 0
	}
	return nearest(r.came[len(r.came)-1-k], r.least, r.most)
}

// sum is the sum of what came in the last n steps.
func (r *row) sum(n int) int64 {
	var all int64
	for k := range n {
		all += r.ago(k)
	}
	return all
}

// put lets one more value come.
func (r *row) put(v int64) {
	r.came = append(r.came, v)
}

// reckoning is what the chapters' words (10 to 14) say of all samples, filter by filter.
type reckoning struct {
	mains                         int
	base                          int64
	notch, low, high, slope, hill row
}

// reckoned is one to which nothing came.
func reckoned(mains int) *reckoning {
	return &reckoning{
		mains: mains,
		notch: row{least: -65535, most: 65535},
		low:   row{least: -65535, most: 65535},
		high:  row{least: -73727, most: 73727},
		slope: row{least: -142847, most: 142847},
		hill:  row{least: 0, most: 67108864},
	}
}

// notched is what the notch answers to what came last.
func (r *reckoning) notched() int64 {
	x := &r.notch
	switch r.mains {
	case 50:
		return floor(x.ago(0)+x.ago(1)+x.ago(2)+x.ago(3), 4)
	case 60:
		return floor(12516*x.ago(0)+7736*x.ago(1)+12516*x.ago(2), 32768)
	}
	return x.ago(0)
}

// lowed is what the low filter answers to what came last.
func (r *reckoning) lowed() int64 {
	x := &r.low
	return floor(x.ago(0)+2*x.ago(1)+3*x.ago(2)+4*x.ago(3)+5*x.ago(4)+6*x.ago(5)+5*x.ago(6)+4*x.ago(7)+3*x.ago(8)+2*x.ago(9)+x.ago(10), 32)
}

// next is what one more sample comes to.
func (r *reckoning) next(sample int32) api.Wave {
	v := nearest(int64(sample), foot, top)
	if len(r.notch.came) == 0 {
		r.base = v
	}
	var w api.Wave
	r.notch.put(v - r.base)
	r.low.put(r.notched())
	r.high.put(r.lowed())
	w.H = floor(32*r.high.ago(16)-r.high.sum(32), 32)
	r.slope.put(w.H)
	x := &r.slope
	w.D = floor(2*x.ago(0)+x.ago(1)-x.ago(3)-2*x.ago(4), 8)
	w.E = nearest(w.D*w.D, 0, 67108864)
	r.hill.put(w.E)
	w.W = floor(r.hill.sum(30), 32)
	return w
}

// of is what a row of samples comes to.
func (r *reckoning) of(samples []int32) []api.Wave {
	var l []api.Wave
	for _, v := range samples {
		l = append(l, r.next(v))
	}
	return l
}

// times is a row of one sample, again and again.
func times(v int32, many int) []int32 {
	return slices.Repeat([]int32{v}, many)
}

// wave is one by its four numbers.
func wave(h, d, e, w int64) api.Wave {
	return api.Wave{H: h, D: d, E: e, W: w}
}

// waves are those by their four numbers.
func waves(l ...[4]int64) []api.Wave {
	var out []api.Wave
	for _, n := range l {
		out = append(out, wave(n[0], n[1], n[2], n[3]))
	}
	return out
}

// made is a new chain for those mains.
func made(t *testing.T, mains int) *chain.Chain {
	t.Helper()
	c, e := chain.New(mains)
	if e != api.OK || c == nil {
		t.Fatalf("New(%d): %v, error %d", mains, c, e)
	}
	return c
}

// same holds waves against those that are wanted.
func same(t *testing.T, samples []int32, got, want []api.Wave) {
	t.Helper()
	if slices.Equal(got, want) {
		return
	}
	if len(got) != len(want) {
		t.Fatalf("of %d samples: %d waves; want %d", len(samples), len(got), len(want))
	}
	for i := range got {
		if got[i] != want[i] {
			t.Fatalf("of %v, at %d: %v; want %v", samples[max(0, i-79):i+1], i, got[i], want[i])
		}
	}
}

// answers hands samples to Block, and looks at what is answered.
func answers(t *testing.T, c *chain.Chain, samples []int32, want ...api.Wave) {
	t.Helper()
	same(t, samples, c.Block(samples...), want)
}

// silent hands samples to Block, of which nothing must be left.
func silent(t *testing.T, c *chain.Chain, samples ...int32) {
	t.Helper()
	answers(t, c, samples, make([]api.Wave, len(samples))...)
}

// baseIs asks for Base, twice in a row.
func baseIs(t *testing.T, c *chain.Chain, want int32) {
	t.Helper()
	for range 2 {
		if got, ok := c.Base(); got != want || !ok {
			t.Fatalf("Base: %d, %v; want %d", got, ok, want)
		}
	}
}

// noBase asks for Base, twice in a row, where there is none.
func noBase(t *testing.T, c *chain.Chain) {
	t.Helper()
	for range 2 {
		if got, ok := c.Base(); got != 0 || ok {
			t.Fatalf("Base: %d, %v; want none", got, ok)
		}
	}
}

// held is a chain, and what the chapters say of all that came to it since it was made, or Reset.
type held struct {
	*chain.Chain
	said *reckoning
}

// heldOf is a new chain for those mains.
func heldOf(t *testing.T, mains int) *held {
	t.Helper()
	return &held{Chain: made(t, mains), said: reckoned(mains)}
}

// based asks for Base.
func (h *held) based(t *testing.T) {
	t.Helper()
	if len(h.said.notch.came) == 0 {
		noBase(t, h.Chain)
		return
	}
	baseIs(t, h.Chain, int32(h.said.base))
}

// block hands samples to Block, and holds what is answered, and Base, against the chapters' words.
func (h *held) block(t *testing.T, samples ...int32) {
	t.Helper()
	answers(t, h.Chain, samples, h.said.of(samples)...)
	h.based(t)
}

// push lets one sample come, and holds what is answered, and Base, against the chapters' words.
func (h *held) push(t *testing.T, v int32) {
	t.Helper()
	if got, want := h.Push(v), h.said.next(v); got != want {
		t.Fatalf("mains %d: Push(%d), at %d: %v; want %v", h.said.mains, v, len(h.said.notch.came)-1, got, want)
	}
	h.based(t)
}

// reset makes it as if nothing had come, and looks at Base.
func (h *held) reset(t *testing.T) {
	t.Helper()
	h.Reset()
	h.said = reckoned(h.said.mains)
	noBase(t, h.Chain)
}

// edges are samples at which something changes: signs, Low, High, and the ends of ranges of bits, among them those whose lower bits are those of small numbers.
func edges() []int32 {
	l := []int32{0, 1, 2, 31, 32, 33, 500, top - 32, top - 1, top, top + 1, top + 2, top + 33, 65535, 65536, 65537, 65536 + 77, 1 << 24, 1<<30 + 77, most - 1}
	for _, v := range slices.Clone(l) {
		l = append(l, -v)
	}
	return append(l, most, least, least+1, least+7)
}

// noise hands out numbers of all kinds, the same ones each time.
type noise uint64

// upTo is the next number, from 0 up to n - 1.
func (x *noise) upTo(n int) int {
	if *x == 0 {
		*x = 88172645463325252
	}
	*x ^= *x << 13
	*x ^= *x >> 7
	*x ^= *x << 17
	return int(uint64(*x) >> 11 % uint64(n))
}

// near is a number at most so far from 0, of either sign.
func (x *noise) near(far int) int32 {
	return int32(x.upTo(2*far+1) - far)
}

// sample is a number from Low to High.
func (x *noise) sample() int32 {
	return int32(x.upTo(65536) - 32768)
}

// whole is a number of 32 bits, of any size and sign.
func (x *noise) whole() int32 {
	return int32(x.upTo(1<<32)) >> x.upTo(32)
}

// atBound is Low or High, or a little to either side of it.
func (x *noise) atBound() int32 {
	return []int32{foot, top}[x.upTo(2)] + x.near(3)
}

// kinds are how many kinds of rows there are: near 0, small, from Low to High, at the bounds, of any size, of all these kinds mixed, and those that stay for a while.
const (
	kinds = 7
	mixed = 5
)

// row is so many samples of one kind.
func (x *noise) row(kind, size int) []int32 {
	ways := []func() int32{
		func() int32 { return x.near(20) },
		func() int32 { return 1000 + x.near(700) },
		x.sample,
		x.atBound,
		x.whole,
	}
	var l []int32
	stays := x.sample()
	for range size {
		switch {
		case kind < len(ways):
			l = append(l, ways[kind]())
		case kind == mixed:
			l = append(l, ways[x.upTo(len(ways))]())
		default:
			if x.upTo(25) == 0 {
				stays = x.sample()
			}
			l = append(l, stays)
		}
	}
	return l
}

// rows are long rows, of each kind.
func rows() [][]int32 {
	var x noise
	var l [][]int32
	for kind := range kinds {
		l = append(l, x.row(kind, 1500), x.row(kind, 701))
	}
	return l
}
