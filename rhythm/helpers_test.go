package rhythm_test

import (
	"math"
	"slices"
	"testing"

	"systole/api"
	"systole/rhythm"
)

const (
	most    = math.MaxInt64
	least   = math.MinInt64
	maxAt   = 1099511627776
	highest = 142847
	last    = 400
)

// usual is the usual limits, written out.
func usual() api.Limits {
	return api.Limits{Mains: 50, Asys: 800, Tach: 100, TachN: 5, Brad: 240, BradN: 3, Fib: 200, FibN: 12, Escape: 2000}
}

// quick is limits by which each condition comes soon: at 200 samples, at two crossings of 100, at two distances up to 90, and at two from 300 on.
func quick() api.Limits {
	return api.Limits{Mains: 50, Asys: 200, Tach: 90, TachN: 2, Brad: 300, BradN: 2, Fib: 100, FibN: 2, Escape: 2000}
}

// quickest is quick with a single crossing, and single distances.
func quickest() api.Limits {
	l := quick()
	l.TachN, l.BradN, l.FibN = 1, 1, 1
	return l
}

// asys is the usual limits, with another Asys.
func asys(n int64) api.Limits {
	l := usual()
	l.Asys = n
	return l
}

func gap(at int64) api.Mark         { return api.Mark{Kind: 1, At: at} }
func off(at int64) api.Mark         { return api.Mark{Kind: 2, At: at} }
func on(at int64) api.Mark          { return api.Mark{Kind: 3, At: at} }
func sample(at, h int64) api.Mark   { return api.Mark{Kind: 4, At: at, H: h} }
func dark(at int64) api.Mark        { return api.Mark{Kind: 5, At: at} }
func beat(at, rr int64) api.Mark    { return api.Mark{Kind: 6, At: at, Beat: api.Beat{RR: rr}} }
func begins(k int, a int64) outcome { return outcome{{Kind: k, At: a, On: true}} }
func ends(k int, a int64) outcome   { return outcome{{Kind: k, At: a}} }

// outcome is what is told.
type outcome = []api.Cond

// and is several outcomes, one behind the other.
func and(l ...outcome) outcome {
	return slices.Concat(l...)
}

// at hands on the same mark at another sample.
func at(n int64, m api.Mark) api.Mark {
	m.At = n
	return m
}

// nearest is as what a sample's number counts.
func nearest(at int64) int64 {
	switch {
	case at < 0:
		return 0
	case at > maxAt:
		return maxAt
	}
	return at
}

// state is of each kind of conditions whether it is there.
type state [6]bool

// leadOff says, of all that came, whether the lead is off behind it.
func leadOff(came []api.Mark) bool {
	for _, m := range slices.Backward(came) {
		if m.Kind == 2 || m.Kind == 3 {
			return m.Kind == 2
		}
	}
	return false
}

// since is what came from the last mark on that begins all anew, that one among it; all, if there was none.
func since(came []api.Mark) []api.Mark {
	for i, m := range slices.Backward(came) {
		if m.Kind >= 1 && m.Kind <= 3 {
			return came[i:]
		}
	}
	return came
}

// lookedAt says whether a mark is one behind which something may be told, by all that came ahead of it.
func lookedAt(ahead []api.Mark, m api.Mark) bool {
	switch m.Kind {
	case 1, 2, 3:
		return true
	case 4, 6:
		return !leadOff(ahead)
	}
	return false
}

// crossings is how many of the last values are crossings of a height.
func crossings(height int64, h []int64) int64 {
	var many int64
	for i := max(0, len(h)-last); i < len(h); i++ {
		if i > 0 && h[i-1] < height && h[i] >= height {
			many++
		}
	}
	return many
}

// wordsOf is what the chapter's words say of all that came: which conditions there are behind it.
func wordsOf(l api.Limits, came []api.Mark) state {
	if leadOff(came) {
		return state{1: true}
	}
	var h, rr []int64
	var from, now int64
	begun := false
	for _, m := range since(came) {
		if m.Kind < 1 || m.Kind == 5 || m.Kind > 6 {
			continue
		}
		now = nearest(m.At)
		if !begun || m.Kind == 6 {
			from, begun = now, true
		}
		if m.Kind == 4 {
			h = append(h, m.H)
		}
		if m.Kind == 6 && m.Beat.RR >= 1 {
			rr = append(rr, m.Beat.RR)
		}
	}
	tach, brad := int(l.TachN), int(l.BradN)
	return state{
		2: begun && now-from >= l.Asys,
		3: crossings(l.Fib, h) >= l.FibN,
		4: len(rr) >= tach && slices.Max(rr[len(rr)-tach:]) <= l.Tach,
		5: len(rr) >= brad && slices.Min(rr[len(rr)-brad:]) >= l.Brad,
	}
}

// toldOf is what the chapter's words say that is told of a mark, behind all that came.
func toldOf(l api.Limits, ahead []api.Mark, m api.Mark) outcome {
	if !lookedAt(ahead, m) {
		return nil
	}
	was, is := wordsOf(l, ahead), wordsOf(l, append(slices.Clip(ahead), m))
	var told outcome
	for kind := range is {
		if is[kind] != was[kind] {
			told = append(told, api.Cond{Kind: kind, At: m.At, On: is[kind]})
		}
	}
	return told
}

// of is a new rhythm by limits that may be.
func of(t *testing.T, l api.Limits) *rhythm.Rhythm {
	t.Helper()
	r, e := rhythm.New(l)
	if e != api.OK || r == nil {
		t.Fatalf("New(%+v): %v, %v", l, r, e)
	}
	return r
}

// otherKinds are kinds that there aren't: of marks, of which 6 is the last one; and of conditions, beside 6.
func otherKinds() []int {
	return []int{0, -1, -2, -4, -5, -6, 7, 8, 9, 1<<8 + 1, 1<<8 + 2, 1<<16 + 2, 1<<31 + 4, 1<<32 + 1, 1<<32 + 2, 1<<32 + 4, -1<<32 + 1, -1<<32 + 3, math.MaxInt - 1, math.MaxInt, math.MinInt, math.MinInt + 1, math.MinInt + 4, math.MinInt + 6}
}

// is looks that these conditions are there, and no other ones, twice in a row; and that asking for no mark tells nothing.
func is(t *testing.T, r *rhythm.Rhythm, kinds ...int) {
	t.Helper()
	for range 2 {
		for kind := 1; kind <= 5; kind++ {
			if got := r.On(kind); got != slices.Contains(kinds, kind) {
				t.Fatalf("On(%d): %v; want the kinds %v", kind, got, kinds)
			}
		}
		if got := r.Off(); got != slices.Contains(kinds, 1) {
			t.Fatalf("Off: %v; want the kinds %v", got, kinds)
		}
		if got := r.Push(); len(got) != 0 {
			t.Fatalf("Push of no mark: %v", got)
		}
	}
}

// says pushes marks in one call, and looks at what is told.
func says(t *testing.T, r *rhythm.Rhythm, want outcome, m ...api.Mark) {
	t.Helper()
	if got := r.Push(m...); !slices.Equal(got, want) {
		t.Fatalf("Push of %d marks, the last of them %+v: %v; want %v", len(m), m[max(0, len(m)-4):], got, want)
	}
}

// held is a rhythm, its limits, and all that came to it.
type held struct {
	*rhythm.Rhythm
	limits api.Limits
	came   []api.Mark
}

// heldOf is a new rhythm by limits.
func heldOf(t *testing.T, l api.Limits) *held {
	t.Helper()
	h := &held{Rhythm: of(t, l), limits: l}
	h.look(t)
	return h
}

// look holds what stands against the chapter's words.
func (h *held) look(t *testing.T) {
	t.Helper()
	var kinds []int
	for kind, there := range wordsOf(h.limits, h.came) {
		if there {
			kinds = append(kinds, kind)
		}
	}
	is(t, h.Rhythm, kinds...)
}

// push lets marks come in one call, and holds what is told, and what stands, against the chapter's words.
func (h *held) push(t *testing.T, l ...api.Mark) outcome {
	t.Helper()
	var want outcome
	for _, m := range l {
		want = append(want, toldOf(h.limits, h.came, m)...)
		h.came = append(h.came, m)
	}
	got := h.Push(l...)
	if !slices.Equal(got, want) {
		t.Fatalf("limits %+v, behind %d marks, the last of them %+v: %v; want %v", h.limits, len(h.came), h.came[max(0, len(h.came)-6):], got, want)
	}
	h.look(t)
	return got
}

// fastOnes, slowOnes are so many beats, the first one at a sample, with distances that are fast, or slow, by quick.
func fastOnes(at int64, many int) []api.Mark { return beats(at, 90, many) }
func slowOnes(at int64, many int) []api.Mark { return beats(at, 300, many) }

// beats are so many beats with one distance.
func beats(at, rr int64, many int) []api.Mark {
	var l []api.Mark
	for i := range int64(many) {
		l = append(l, beat(at+i*rr, rr))
	}
	return l
}

// flutter is so many samples, the first one at a sample, that are just below a height, and at it, by turns.
func flutter(at, height int64, many int) []api.Mark {
	var l []api.Mark
	for i := range int64(many) {
		l = append(l, sample(at+i, height-1+i&1))
	}
	return l
}

// samples are so many samples with one value.
func samples(at, h int64, many int) []api.Mark {
	var l []api.Mark
	for i := range int64(many) {
		l = append(l, sample(at+i, h))
	}
	return l
}

// stands is a quick rhythm with these conditions, ahead of sample 1000; of AlTach and AlBrad at most one.
func stands(t *testing.T, kinds ...int) *rhythm.Rhythm {
	t.Helper()
	r := of(t, quick())
	at := int64(0)
	if slices.Contains(kinds, 4) {
		r.Push(fastOnes(0, 2)...)
		at = 91
	}
	if slices.Contains(kinds, 5) {
		r.Push(slowOnes(0, 2)...)
		at = 301
	}
	if slices.Contains(kinds, 3) {
		r.Push(flutter(at, 100, 4)...)
		at += 4
	}
	if slices.Contains(kinds, 2) {
		r.Push(sample(at, 100), sample(at+400, 100))
	}
	if slices.Contains(kinds, 1) {
		r.Push(off(900))
	}
	is(t, r, kinds...)
	return r
}

// edges are numbers at which something changes: signs, MaxAt, and the ends of ranges of bits, among them those whose lower bits are those of small numbers.
func edges() []int64 {
	l := []int64{0, 1, 2, 40, 50, 100, 199, 200, 240, 799, 800, 801, 1000, 6000}
	for _, n := range []int64{0, 1, 2, 200, 799, 800, 801, 6000} {
		l = append(l, maxAt-n, maxAt+n)
	}
	for _, k := range []int{15, 16, 31, 32, 40, 41, 47, 48, 61, 62} {
		l = append(l, 1<<k-1, 1<<k, 1<<k+1, 1<<k+777)
	}
	l = append(l, most-1, most)
	for _, n := range l {
		l = append(l, -n)
	}
	return append(l, least, least+1, least+777)
}
