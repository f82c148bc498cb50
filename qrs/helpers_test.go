package qrs_test

import (
	"math"
	"slices"
	"testing"

	"systole/api"
	"systole/peak"
	"systole/qrs"
)

const (
	most  = math.MaxInt64
	least = math.MinInt64
	bound = 62914560
	steep = 107136
	maxAt = 1099511627776
)

// goes is a number going from a by one of so many parts towards b: as a floor.
func goes(a, b, parts int64) int64 {
	part := (b - a) / parts
	for part*parts > b-a {
		part--
	}
	return a + part
}

// upperOf is the upper threshold of a level.
func upperOf(l api.Level) int64 {
	return max(goes(l.Noise, l.Signal, 4), 256)
}

// did counts what the chapter's words came to, so that a test can tell whether it has met all of it.
type did struct {
	soon, flat, kept, high, found int
}

// reckoning is what the chapter's words say of all that came. Of layer 16 it has a finder; all else is reckoned here.
type reckoning struct {
	finder     *peak.Finder
	n, start   int64
	remembered []int64
	level      api.Level
	// The last beat's peak, if there is one.
	last []api.Peak
	kept []api.Peak
	rrs  []int64
	did  did
}

// newReckoning is one of which nothing came.
func newReckoning() reckoning {
	return reckoning{finder: peak.New()}
}

// push is P19.1 and P19.2 of one step.
func (r *reckoning) push(at int64, w api.Wave) []api.Beat {
	n := r.n
	r.n++
	if n == 0 {
		r.start = min(max(at, 0), maxAt)
	}
	p, seen := r.finder.Push(w.W, w.D)
	if n < 400 {
		if seen {
			r.remembered = append(r.remembered, p.Top)
		}
		return nil
	}
	if n == 400 {
		r.level = api.Level{}
		if len(r.remembered) > 0 {
			r.level.Signal = slices.Max(r.remembered)
		}
	}
	var l []api.Beat
	if seen {
		l = r.judge(n, p)
	}
	c, ok := r.candidate()
	if len(r.last) > 0 && r.late(n-r.last[0].At) && ok && c.Top > upperOf(r.level)/2 {
		r.level.Signal = goes(r.level.Signal, c.Top, 4)
		r.did.found++
		l = append(l, r.beat(n, c, true))
	}
	return l
}

// judge is what comes of a peak.
func (r *reckoning) judge(n int64, p api.Peak) []api.Beat {
	if len(r.last) > 0 && p.At-r.last[0].At < 40 {
		r.did.soon++
		return nil
	}
	if p.Top > upperOf(r.level) {
		if len(r.last) > 0 && p.At-r.last[0].At < 72 && 2*p.Steep < r.last[0].Steep {
			r.did.flat++
			r.level.Noise = goes(r.level.Noise, p.Top, 8)
			return nil
		}
		r.did.high++
		r.level.Signal = goes(r.level.Signal, p.Top, 8)
		return []api.Beat{r.beat(n, p, false)}
	}
	r.did.kept++
	r.level.Noise = goes(r.level.Noise, p.Top, 8)
	r.kept = append(r.kept, p)
	return nil
}

// beat is a peak as a beat.
func (r *reckoning) beat(n int64, p api.Peak, back bool) api.Beat {
	behind := p.At - 38
	if behind < 0 {
		behind = 0
	}
	b := api.Beat{At: r.start + behind, Seen: r.start + n, Back: back}
	if len(r.last) > 0 {
		b.RR = p.At - r.last[0].At
		r.rrs = append(r.rrs, b.RR)
	}
	r.last, r.kept = []api.Peak{p}, nil
	return b
}

// candidate is the highest peak of those that were kept, the first one of equal ones.
func (r *reckoning) candidate() (api.Peak, bool) {
	if len(r.kept) == 0 {
		return api.Peak{}, false
	}
	c := r.kept[0]
	for _, p := range r.kept {
		if p.Top > c.Top {
			c = p
		}
	}
	return c, true
}

// mean is the floor of the mean of the last eight distances.
func (r *reckoning) mean() int64 {
	last := r.rrs[max(0, len(r.rrs)-8):]
	if len(last) == 0 {
		return 0
	}
	var sum int64
	for _, rr := range last {
		sum += rr
	}
	return sum / int64(len(last))
}

// late says whether a beat is, so far behind the last one.
func (r *reckoning) late(since int64) bool {
	return len(r.rrs) > 0 && since > 5*r.mean()/3
}

// toldLevel is the level as it is told.
func (r *reckoning) toldLevel() api.Level {
	if r.n <= 400 {
		return api.Level{}
	}
	return r.level
}

// made is a new detector.
func made(t *testing.T) *qrs.Detector {
	t.Helper()
	d := qrs.New()
	if d == nil {
		t.Fatal("New: nil")
	}
	return d
}

// stands asks for all that a detector tells, twice in a row.
func stands(t *testing.T, d *qrs.Detector, steps int64, learning bool, l api.Level, mean int64) {
	t.Helper()
	for range 2 {
		if got := d.Steps(); got != steps {
			t.Fatalf("Steps: %d; want %d", got, steps)
		}
		if got := d.Learning(); got != learning {
			t.Fatalf("Learning at step %d: %v", steps, got)
		}
		if got := d.Level(); got != l {
			t.Fatalf("Level at step %d: %v; want %v", steps, got, l)
		}
		if got := d.Mean(); got != mean {
			t.Fatalf("Mean at step %d: %d; want %d", steps, got, mean)
		}
	}
}

// isNew looks that a detector stands as a new one.
func isNew(t *testing.T, d *qrs.Detector) {
	t.Helper()
	stands(t, d, 0, true, api.Level{}, 0)
}

// same holds beats against those that are wanted.
func same(t *testing.T, got, want []api.Beat) {
	t.Helper()
	if !slices.Equal(got, want) {
		t.Fatalf("the beats are %v; want %v", got, want)
	}
}

// held is a detector, what came since it was made, or Reset, and the beats that no test has looked at yet.
type held struct {
	*qrs.Detector
	words reckoning
	start int64
	beats []api.Beat
}

// heldOf is a new detector of samples from start on.
func heldOf(t *testing.T, start int64) *held {
	t.Helper()
	return &held{Detector: made(t), words: newReckoning(), start: start}
}

// push lets one step come, and holds all that is answered against the chapter's words.
func (h *held) push(t *testing.T, at int64, w api.Wave) {
	t.Helper()
	want := h.words.push(at, w)
	got := h.Push(at, w)
	if !slices.Equal(got, want) {
		t.Fatalf("Push(%d, %v) at step %d: %v; want %v", at, w, h.words.n-1, got, want)
	}
	h.beats = append(h.beats, got...)
	stands(t, h.Detector, h.words.n, h.words.n <= 400, h.words.toldLevel(), h.words.mean())
}

// step lets a sum and a slope come, of the next sample.
func (h *held) step(t *testing.T, sum, slope int64) {
	t.Helper()
	h.push(t, h.start+h.words.n, api.Wave{W: sum, D: slope})
}

// quiet lets steps of nothing come, up to the one that is ahead of step to.
func (h *held) quiet(t *testing.T, to int64) {
	t.Helper()
	for h.words.n < to {
		h.step(t, 0, 0)
	}
}

// wide lets a peak come, whose sums stay at its top for so many steps: it is seen at the step behind them.
func (h *held) wide(t *testing.T, at, many, top, slope int64) {
	t.Helper()
	h.quiet(t, at)
	if h.words.n != at {
		t.Fatalf("step %d has been", at)
	}
	for range many {
		h.step(t, top, slope)
	}
	h.step(t, 0, 0)
}

// peak lets a peak of one step come: it is seen at the step behind it.
func (h *held) peak(t *testing.T, at, top, slope int64) {
	t.Helper()
	h.wide(t, at, 1, top, slope)
}

// told looks at the beats since it was asked last.
func (h *held) told(t *testing.T, want ...api.Beat) {
	t.Helper()
	same(t, h.beats, want)
	h.beats = nil
}

// knows looks at the level.
func (h *held) knows(t *testing.T, signal, noise int64) {
	t.Helper()
	if got, want := h.Level(), (api.Level{Signal: signal, Noise: noise}); got != want {
		t.Fatalf("the level at step %d: %v; want %v", h.words.n, got, want)
	}
}

// reset makes it as New, and looks at it.
func (h *held) reset(t *testing.T) {
	t.Helper()
	h.Reset()
	isNew(t, h.Detector)
	h.words, h.beats = newReckoning(), nil
}

// learnt is a detector that has learnt from a single peak of that top, and stands at step 401. Its samples are those from 1000 on.
func learnt(t *testing.T, top int64) *held {
	t.Helper()
	h := heldOf(t, 1000)
	if top > 0 {
		h.peak(t, 100, top, 30)
	}
	h.quiet(t, 401)
	h.told(t)
	h.knows(t, min(top, bound), 0)
	return h
}

// beating is a detector that has learnt the top 4000, and told two beats of it, at the steps 620 - gap and 620, both of that steepness: its Mean is gap, its Upper 1000, its Lower 500.
func beating(t *testing.T, gap, slope int64) *held {
	t.Helper()
	h := learnt(t, 4000)
	h.peak(t, 620-gap, 4000, slope)
	h.peak(t, 620, 4000, slope)
	h.told(t, at(620-gap, 621-gap, 0), at(620, 621, gap))
	h.knows(t, 4000, 0)
	return h
}

// at is a beat of a peak at a step, that was told at a step, of samples from 1000 on.
func at(step, told, rr int64) api.Beat {
	return api.Beat{At: max(962+step, 1000), Seen: 1000 + told, RR: rr}
}

// back is such a beat that was found by looking back.
func back(step, told, rr int64) api.Beat {
	b := at(step, told, rr)
	b.Back = true
	return b
}

// orders are all orders of these numbers.
func orders(l ...int64) [][]int64 {
	if len(l) == 0 {
		return [][]int64{nil}
	}
	var all [][]int64
	for i, first := range l {
		for _, rest := range orders(slices.Delete(slices.Clone(l), i, i+1)...) {
			all = append(all, append([]int64{first}, rest...))
		}
	}
	return all
}

// edges are numbers at which something changes: signs, thresholds, the bounds, and the ends of ranges of bits, among them those whose lower bits are those of small numbers.
func edges() []int64 {
	l := []int64{0, 1, 2, 37, 38, 39, 64, 65, 66, 256, 257, 1000, 1001, steep - 1, steep, steep + 1, bound - 1, bound, bound + 1, maxAt - 1, maxAt, maxAt + 1}
	for _, k := range []int{15, 16, 31, 32, 47, 48, 61, 62} {
		l = append(l, 1<<k-1, 1<<k, 1<<k+1, 1<<k+777)
	}
	l = append(l, most-1, most)
	for _, v := range l {
		l = append(l, -v)
	}
	return append(l, least, least+777)
}

// noise hands out numbers of all kinds, the same ones each time.
type noise uint64

// upTo is the next number, from 0 up to n - 1.
func (x *noise) upTo(n int64) int64 {
	if *x == 0 {
		*x = 88172645463325252
	}
	*x ^= *x << 13
	*x ^= *x >> 7
	*x ^= *x << 17
	return int64(uint64(*x) >> 11 % uint64(n))
}

// near is a number at most so far from v.
func (x *noise) near(v, far int64) int64 {
	return v + x.upTo(2*far+1) - far
}

// whole is a number of 64 bits, of any size and sign.
func (x *noise) whole() int64 {
	return (x.upTo(most)<<1 + x.upTo(2)) >> x.upTo(64)
}

// one is one of these numbers.
func (x *noise) one(l ...int64) int64 {
	return l[x.upTo(int64(len(l)))]
}
