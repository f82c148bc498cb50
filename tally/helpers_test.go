package tally_test

import (
	"math"
	"slices"
	"testing"

	"systole/api"
	"systole/tally"
)

const (
	most  = math.MaxInt64
	least = math.MinInt64
	maxAt = 1099511627776
)

// usual is the usual limits, written out.
func usual() api.Limits {
	return api.Limits{Mains: 50, Asys: 800, Tach: 100, TachN: 5, Brad: 240, BradN: 3, Fib: 200, FibN: 12, Escape: 2000}
}

// often is the usual limits, with another TachN and BradN.
func often(tachN, bradN int64) api.Limits {
	l := usual()
	l.TachN, l.BradN = tachN, bradN
	return l
}

// asys is the usual limits, with another Asys.
func asys(n int64) api.Limits {
	l := usual()
	l.Asys = n
	return l
}

// nearest is as what a sample's number counts.
func nearest(at int64) int64 {
	switch {
	case at < 0:
		return 0
	case at > maxAt:
		return maxAt
	}
	return at
}

// reckoning is what the chapter's words say of all that was done since it began.
type reckoning struct {
	limits api.Limits
	begun  bool
	from   int64
	beats  []int64
	// The distances that were not passed over.
	rrs []int64
}

// begin is P20.2 of Begin.
func (r *reckoning) begin(at int64) {
	*r = reckoning{limits: r.limits, begun: true, from: nearest(at)}
}

// beat is P20.2 of Beat.
func (r *reckoning) beat(at int64, rr ...int64) {
	if !r.begun {
		r.begin(at)
	}
	r.beats = append(r.beats, nearest(at))
	for _, d := range rr {
		if d >= 1 {
			r.rrs = append(r.rrs, d)
		}
	}
}

// tach is P20.4: whether the last TachN distances are all at most Tach.
func (r *reckoning) tach() bool {
	n := int(r.limits.TachN)
	return len(r.rrs) >= n && slices.Max(r.rrs[len(r.rrs)-n:]) <= r.limits.Tach
}

// brad is P20.4: whether the last BradN distances are all at least Brad.
func (r *reckoning) brad() bool {
	n := int(r.limits.BradN)
	return len(r.rrs) >= n && slices.Min(r.rrs[len(r.rrs)-n:]) >= r.limits.Brad
}

// last is the sample of the last beat, or where it began, if none came.
func (r *reckoning) last() int64 {
	if len(r.beats) == 0 {
		return r.from
	}
	return r.beats[len(r.beats)-1]
}

// still is P20.2 of Still.
func (r *reckoning) still(at int64) bool {
	return r.begun && nearest(at)-r.last() >= r.limits.Asys
}

// of is a new tally by limits that may be.
func of(t *testing.T, l api.Limits) *tally.Tally {
	t.Helper()
	x, e := tally.New(l)
	if e != api.OK || x == nil {
		t.Fatalf("New(%+v): %v, %v", l, x, e)
	}
	return x
}

// is looks at all that a tally answers but Still, twice in a row.
func is(t *testing.T, x *tally.Tally, begun, tach, brad bool) {
	t.Helper()
	for range 2 {
		if got := x.Begun(); got != begun {
			t.Fatalf("Begun: %v", got)
		}
		if got := x.Tach(); got != tach {
			t.Fatalf("Tach: %v", got)
		}
		if got := x.Brad(); got != brad {
			t.Fatalf("Brad: %v", got)
		}
	}
}

// isNew looks that a tally stands as a new one, and is never still.
func isNew(t *testing.T, x *tally.Tally) {
	t.Helper()
	is(t, x, false, false, false)
	for _, at := range edges() {
		if x.Still(at) {
			t.Fatalf("Still(%d), and it has not begun", at)
		}
	}
}

// stillFrom looks that a tally is still from a sample on, and not ahead of it; nowhere, if it is beyond MaxAt.
func stillFrom(t *testing.T, x *tally.Tally, from int64) {
	t.Helper()
	for _, at := range append(edges(), from-800, from-2, from-1, from, from+1, from+2, from+800) {
		if got, want := x.Still(at), nearest(at) >= from; got != want {
			t.Fatalf("still from %d on; Still(%d): %v", from, at, got)
		}
	}
}

// held is a tally, and what the chapter's words say of it.
type held struct {
	*tally.Tally
	words reckoning
}

// heldOf is a new tally by limits.
func heldOf(t *testing.T, l api.Limits) *held {
	t.Helper()
	h := &held{Tally: of(t, l), words: reckoning{limits: l}}
	h.look(t)
	return h
}

// look holds all that the tally answers against the chapter's words.
func (h *held) look(t *testing.T) {
	t.Helper()
	is(t, h.Tally, h.words.begun, h.words.tach(), h.words.brad())
	from := h.words.last() + h.words.limits.Asys
	for _, at := range []int64{least, -1, 0, 1, h.words.last() - 1, h.words.last(), h.words.last() + 1, from - 1, from, from + 1, maxAt - 1, maxAt, maxAt + 1, most} {
		if got, want := h.Still(at), h.words.still(at); got != want {
			t.Fatalf("the last one is at %d, Asys is %d; Still(%d): %v", h.words.last(), h.words.limits.Asys, at, got)
		}
	}
}

// begin lets it begin at a sample, and looks at it.
func (h *held) begin(t *testing.T, at int64) {
	t.Helper()
	h.words.begin(at)
	h.Begin(at)
	h.look(t)
}

// beat lets a beat come, and looks at it.
func (h *held) beat(t *testing.T, at int64, rr ...int64) {
	t.Helper()
	h.words.beat(at, rr...)
	h.Beat(at, rr...)
	h.look(t)
}

// reset makes it as New, and looks at it.
func (h *held) reset(t *testing.T) {
	t.Helper()
	h.words = reckoning{limits: h.words.limits}
	h.Reset()
	isNew(t, h.Tally)
}

// times is a list of one distance, again and again.
func times(rr int64, many int64) []int64 {
	return slices.Repeat([]int64{rr}, int(many))
}

// none are distances that are passed over.
func none() []int64 {
	return []int64{0, -1, -2, -90, -100, -240, -1 << 31, -1<<32 + 90, -1 << 62, least + 90, least + 1, least}
}

// edges are numbers at which something changes: signs, MaxAt, and the ends of ranges of bits, among them those whose lower bits are those of small numbers.
func edges() []int64 {
	l := []int64{0, 1, 2, 40, 50, 100, 199, 200, 240, 799, 800, 801, 1000, 6000}
	for _, n := range []int64{0, 1, 2, 200, 799, 800, 801, 6000} {
		l = append(l, maxAt-n, maxAt+n)
	}
	for _, k := range []int{15, 16, 31, 32, 40, 41, 47, 48, 61, 62} {
		l = append(l, 1<<k-1, 1<<k, 1<<k+1, 1<<k+777)
	}
	l = append(l, most-1, most)
	for _, n := range l {
		l = append(l, -n)
	}
	return append(l, least, least+1, least+777)
}

// noise hands out numbers of all kinds, the same ones each time.
type noise uint64

// upTo is the next number, from 0 up to n - 1.
func (x *noise) upTo(n int64) int64 {
	if *x == 0 {
		*x = 88172645463325252
	}
	*x ^= *x << 13
	*x ^= *x >> 7
	*x ^= *x << 17
	return int64(uint64(*x) >> 11 % uint64(n))
}

// from is a number from lo to hi.
func (x *noise) from(lo, hi int64) int64 {
	return lo + x.upTo(hi-lo+1)
}

// whole is a number of 64 bits, of any size and sign.
func (x *noise) whole() int64 {
	return (x.upTo(most)<<1 + x.upTo(2)) >> x.upTo(64)
}

// one is one of these numbers.
func (x *noise) one(l ...int64) int64 {
	return l[x.upTo(int64(len(l)))]
}

// limits are some that may be.
func (x *noise) limits() api.Limits {
	tach := x.one(40, 400, x.from(40, 400))
	return api.Limits{
		Mains:  int(x.one(0, 50, 60)),
		Asys:   x.one(200, 6000, x.from(200, 6000)),
		Tach:   tach,
		TachN:  x.one(1, 2, 20, x.from(1, 20)),
		Brad:   x.one(tach+1, 2000, x.from(tach+1, 2000)),
		BradN:  x.one(1, 2, 20, x.from(1, 20)),
		Fib:    x.from(1, 142847),
		FibN:   x.from(1, 200),
		Escape: x.from(1, 1<<20),
	}
}

// distance is a distance of any kind, as limits see it: fast, between, slow, at their ends, none, or any number.
func (x *noise) distance(l api.Limits) int64 {
	switch x.upTo(8) {
	case 0, 1:
		return x.from(1, l.Tach)
	case 2, 3:
		return x.from(l.Brad, l.Brad+500)
	case 4:
		return x.from(l.Tach, l.Brad)
	case 5:
		return x.one(l.Tach, l.Brad) + x.from(-1, 1)
	case 6:
		return x.one(0, -1, -x.from(0, 3000), 1, most, least)
	}
	return x.whole()
}

// row is so many distances, of which many in a row are of one kind.
func (x *noise) row(l api.Limits, many int64) []int64 {
	var row []int64
	for int64(len(row)) < many {
		again := x.one(1, 1, 2, x.from(1, 25))
		rr := x.distance(l)
		row = append(row, times(rr, min(again, many-int64(len(row))))...)
	}
	return row
}
