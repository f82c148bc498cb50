package peak_test

import (
	"math"
	"slices"
	"testing"

	"systole/api"
	"systole/peak"
)

const (
	most  = math.MaxInt64
	least = math.MinInt64
	bound = 62914560
	steep = 107136
)

// nearest is v, or the nearer one of two ends.
func nearest(v, from, to int64) int64 {
	switch {
	case v < from:
		return from
	case v > to:
		return to
	}
	return v
}

// counts is what a sum that came counts as.
func counts(w int64) int64 {
	return nearest(w, 0, bound)
}

// distance is how far from 0 what a slope counts as is.
func distance(d int64) int64 {
	d = nearest(d, -steep, steep)
	if d < 0 {
		return -d
	}
	return d
}

// reckoning is what the chapter's words say of all that came.
type reckoning struct {
	w, d []int64
	// The step since which it is falling, or rising.
	since  int
	rising bool
}

// valley is the least sum since it is falling.
func (r *reckoning) valley() int64 {
	low := counts(r.w[r.since])
	for _, w := range r.w[r.since:] {
		low = min(low, counts(w))
	}
	return low
}

// top is the greatest sum since it is rising, and the first step at which it came.
func (r *reckoning) top() (at int, high int64) {
	at = r.since
	for i := r.since; i < len(r.w); i++ {
		if counts(r.w[i]) > counts(r.w[at]) {
			at = i
		}
	}
	return at, counts(r.w[at])
}

// steepest is the greatest distance of a slope from 0 since it is rising.
func (r *reckoning) steepest() int64 {
	var far int64
	for _, d := range r.d[r.since:] {
		far = max(far, distance(d))
	}
	return far
}

// next is what one more step comes to.
func (r *reckoning) next(w, d int64) (api.Peak, bool) {
	now, sum := len(r.w), counts(w)
	r.w, r.d = append(r.w, w), append(r.d, d)
	if !r.rising {
		if sum > 2*r.valley()+64 {
			r.rising, r.since = true, now
		}
		return api.Peak{}, false
	}
	at, top := r.top()
	if sum == top || 2*sum >= top {
		return api.Peak{}, false
	}
	p := api.Peak{At: int64(at), Seen: int64(now), Top: top, Steep: r.steepest()}
	r.rising, r.since = false, now
	return p, true
}

// said are the peaks of all steps of two rows of one length.
func said(w, d []int64) []api.Peak {
	var r reckoning
	var l []api.Peak
	for i := range w {
		if p, ok := r.next(w[i], d[i]); ok {
			l = append(l, p)
		}
	}
	return l
}

// at is a peak by its four numbers.
func at(step, seen, top, steepness int64) api.Peak {
	return api.Peak{At: step, Seen: seen, Top: top, Steep: steepness}
}

// times is a row of one value, again and again.
func times(v int64, many int) []int64 {
	return slices.Repeat([]int64{v}, many)
}

// made is a new finder.
func made(t *testing.T) *peak.Finder {
	t.Helper()
	f := peak.New()
	if f == nil {
		t.Fatal("New: nil")
	}
	return f
}

// stands asks for Rising and Steps, twice in a row.
func stands(t *testing.T, f *peak.Finder, rising bool, steps int) {
	t.Helper()
	for range 2 {
		if got := f.Rising(); got != rising {
			t.Fatalf("Rising behind %d steps: %v", steps, got)
		}
		if got := f.Steps(); got != int64(steps) {
			t.Fatalf("Steps: %d; want %d", got, steps)
		}
	}
}

// same holds peaks against those that are wanted.
func same(t *testing.T, got, want []api.Peak) {
	t.Helper()
	for i := range min(len(got), len(want)) {
		if got[i] != want[i] {
			t.Fatalf("peak %d: %v; want %v", i, got[i], want[i])
		}
	}
	if len(got) != len(want) {
		t.Fatalf("%d peaks; want %d: %v; want %v", len(got), len(want), last(got, 9), last(want, 9))
	}
}

// last are at most the last n of a list.
func last[T any](l []T, n int) []T {
	return l[max(0, len(l)-n):]
}

// goes pushes sums and slopes (0, where there are none) into a finder that stands behind so many steps, one by one: behind each of them it must be falling (_) or rising (/), and at the end these peaks must have been seen, each at its step.
func goes(t *testing.T, f *peak.Finder, behind int, w, d []int64, how string, want ...api.Peak) {
	t.Helper()
	d = slices.Concat(d, times(0, len(w)))
	if len(how) != len(w) {
		t.Fatalf("%d steps, but %q", len(w), how)
	}
	var got []api.Peak
	for i := range w {
		p, ok := f.Push(w[i], d[i])
		if ok {
			got = append(got, p)
		}
		if ok && p.Seen != int64(behind+i) || !ok && p != at(0, 0, 0, 0) {
			t.Fatalf("Push(%d, %d), behind %d steps: %v, %v", w[i], d[i], behind+i, p, ok)
		}
		if f.Rising() != (how[i] == '/') {
			t.Fatalf("behind %v: rising %v; want %q", last(w[:i+1], 20), f.Rising(), how[i])
		}
		stands(t, f, how[i] == '/', behind+i+1)
	}
	same(t, got, want)
}

// anew does the same with a new finder, and asks for All of these steps.
func anew(t *testing.T, w, d []int64, how string, want ...api.Peak) {
	t.Helper()
	goes(t, made(t), 0, w, d, how, want...)
	same(t, peak.All(w, slices.Concat(d, times(0, len(w)))), want)
}

// held is a finder, and what came since it was made, or Reset.
type held struct {
	*peak.Finder
	came reckoning
}

// heldOf is a new finder.
func heldOf(t *testing.T) *held {
	t.Helper()
	return &held{Finder: made(t)}
}

// push lets one step come, and holds all that is answered against the chapter's words.
func (h *held) push(t *testing.T, w, d int64) {
	t.Helper()
	want, there := h.came.next(w, d)
	if got, ok := h.Push(w, d); got != want || ok != there {
		t.Fatalf("Push at %d of %v, with the slopes %v: %v, %v; want %v, %v", len(h.came.w)-1, last(h.came.w, 20), last(h.came.d, 20), got, ok, want, there)
	}
	if got := h.Rising(); got != h.came.rising {
		t.Fatalf("Rising behind %v, that is %d steps: %v", last(h.came.w, 20), len(h.came.w), got)
	}
	if got := h.Steps(); got != int64(len(h.came.w)) {
		t.Fatalf("Steps: %d; want %d", got, len(h.came.w))
	}
}

// row lets many steps come.
func (h *held) row(t *testing.T, w, d []int64) {
	t.Helper()
	for i := range w {
		h.push(t, w[i], d[i])
	}
}

// reset makes it as New.
func (h *held) reset(t *testing.T) {
	t.Helper()
	h.Reset()
	h.came = reckoning{}
	stands(t, h.Finder, false, 0)
}

// edges are values at which something changes: signs, Rise, the bounds, their halves, and the ends of ranges of bits, among them those whose lower bits are those of small values.
func edges() []int64 {
	l := []int64{0, 1, 2, 31, 32, 33, 63, 64, 65, 66, 300, 664, 665, steep - 1, steep, steep + 1, 31457215, 31457216, 31457217, 31457247, 31457248, 31457249, 31457279, 31457280, 31457281, bound - 1, bound, bound + 1, 2*bound - 1, 2 * bound, 2*bound + 1, most - 1, most}
	for _, k := range []int{15, 16, 31, 32, 47, 48, 61, 62} {
		l = append(l, 1<<k-1, 1<<k, 1<<k+1, 1<<k+77)
	}
	for _, v := range l {
		l = append(l, -v)
	}
	return append(l, least, least+7)
}

// noise hands out numbers of all kinds, the same ones each time.
type noise uint64

// upTo is the next number, from 0 up to n - 1.
func (x *noise) upTo(n int) int {
	if *x == 0 {
		*x = 88172645463325252
	}
	*x ^= *x << 13
	*x ^= *x >> 7
	*x ^= *x << 17
	return int(uint64(*x) >> 11 % uint64(n))
}

// near is a number at most so far from 0, of either sign.
func (x *noise) near(far int) int64 {
	return int64(x.upTo(2*far+1) - far)
}

// whole is a number of 64 bits, of any size and sign.
func (x *noise) whole() int64 {
	return int64(x.upTo(most)<<1+x.upTo(2)) >> x.upTo(64)
}

// slope is one of any size, most often within the bounds.
func (x *noise) slope() int64 {
	switch x.upTo(6) {
	case 0:
		return x.near(20)
	case 1:
		return int64(2*x.upTo(2)-1)*steep + x.near(3)
	case 2:
		return x.whole()
	}
	return x.near(steep)
}

// close is a sum close to where something turns in the finder that a reckoning tells of: what it begins to rise above, what it is seen below, its top, and its valley.
func (x *noise) close(r *reckoning) int64 {
	if len(r.w) == 0 {
		return int64(x.upTo(2000))
	}
	turns := x.upTo(3)
	if r.rising {
		_, top := r.top()
		if turns == 0 {
			return top + x.near(2)
		}
		return top/2 + x.near(2)
	}
	if turns == 0 {
		return r.valley() - int64(x.upTo(3))
	}
	return 2*r.valley() + 64 + x.near(2)
}

// kinds are how many kinds of rows there are: near Rise, somewhat greater, over all that counts and a little beyond, at the bounds, of any size, close to where something turns, and of all these kinds mixed.
const (
	kinds = 7
	mixed = kinds - 1
)

// rows are so many sums of one kind, and as many slopes.
func (x *noise) rows(kind, size int) (w, d []int64) {
	var r reckoning
	ways := []func() int64{
		func() int64 { return int64(x.upTo(140)) - 10 },
		func() int64 { return int64(x.upTo(5000)) },
		func() int64 { return int64(x.upTo(bound+2000000)) - 1000000 },
		func() int64 { return int64(x.upTo(3))*(bound/2) + x.near(40) },
		x.whole,
		func() int64 { return x.close(&r) },
	}
	for range size {
		way := kind
		if kind >= len(ways) {
			way = x.upTo(len(ways))
		}
		sum, slope := ways[way](), x.slope()
		r.next(sum, slope)
		w, d = append(w, sum), append(d, slope)
	}
	return w, d
}
