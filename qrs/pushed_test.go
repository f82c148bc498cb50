package qrs_test

import (
	"slices"
	"testing"

	"systole/api"
	"systole/qrs"
)

// The chapter's example, wherever in each 100 the five steps are, as long as four peaks are learnt from; and what the limits are.
func TestExample(t *testing.T) {
	for first := int64(1); first < 95; first++ {
		h := heldOf(t, 0)
		var want []api.Beat
		for n := range int64(1200) {
			sum := int64(0)
			if n%100 >= first && n%100 < first+5 {
				sum = 1000
			}
			h.step(t, sum, 7)
			if n > 400 && n%100 == first+5 {
				want = append(want, api.Beat{At: n - 43, Seen: n, RR: 100})
			}
		}
		want[0].RR = 0
		if len(want) != 8 || len(h.words.remembered) != 4 {
			t.Fatalf("%d beats, %d learnt", len(want), len(h.words.remembered))
		}
		h.told(t, want...)
		h.knows(t, 1000, 0)
		stands(t, h.Detector, 1200, false, api.Level{Signal: 1000}, 100)
	}
	if api.Learn != 400 || api.Refr != 40 || api.TWave != 72 || api.Delay != 38 || api.MaxAt != maxAt || api.Least != 256 {
		t.Error("the limits are others")
	}
}

// The chapter's example by Push alone, written out.
func TestExampleWrittenOut(t *testing.T) {
	d := made(t)
	var got []api.Beat
	for n := range int64(900) {
		var w api.Wave
		if n%100 >= 50 && n%100 < 55 {
			w.W = 1000
		}
		l := d.Push(n, w)
		if len(l) > 0 && n%100 != 55 {
			t.Errorf("at %d: %v", n, l)
		}
		got = append(got, l...)
	}
	same(t, got, []api.Beat{{At: 412, Seen: 455}, {At: 512, Seen: 555, RR: 100}, {At: 612, Seen: 655, RR: 100}, {At: 712, Seen: 755, RR: 100}, {At: 812, Seen: 855, RR: 100}})
}

// P19.1: a new detector is at step 0, and has learnt nothing, whichever call is the first one.
func TestNew(t *testing.T) {
	isNew(t, made(t))
	if !made(t).Learning() || made(t).Steps() != 0 || made(t).Mean() != 0 || made(t).Level() != (api.Level{}) {
		t.Error("a new detector")
	}
	d := made(t)
	d.Reset()
	isNew(t, d)
	for _, v := range edges() {
		d := made(t)
		same(t, d.Push(v, api.Wave{H: v, D: v, E: v, W: v}), nil)
		stands(t, d, 1, true, api.Level{}, 0)
	}
}

// P19.3: each call of a detector that no call made, that is nil: nothing is done, and it stays so.
func TestNil(t *testing.T) {
	var d *qrs.Detector
	stands(t, d, 0, false, api.Level{}, 0)
	for range 20 {
		for _, v := range edges() {
			same(t, d.Push(v, api.Wave{W: v, D: v}), nil)
			same(t, d.Push(1000, api.Wave{W: 5000}), nil)
			same(t, d.Push(1001, api.Wave{}), nil)
			stands(t, d, 0, false, api.Level{}, 0)
		}
		d.Reset()
		stands(t, d, 0, false, api.Level{}, 0)
	}
	if d != nil {
		t.Error("it is not nil any more")
	}
}

// starts are the ats of step 0, and as what they count; written out.
func starts() [][2]int64 {
	return [][2]int64{
		{least, 0}, {least + 1, 0}, {-1 << 62, 0}, {-1<<40 - 1, 0}, {-1 << 40, 0}, {-1<<32 + 5, 0}, {-38, 0}, {-2, 0}, {-1, 0},
		{0, 0}, {1, 1}, {2, 2}, {1000, 1000}, {1<<31 - 1, 1<<31 - 1}, {1 << 31, 1 << 31}, {1 << 32, 1 << 32}, {1<<32 + 5, 1<<32 + 5},
		{1099511627774, 1099511627774}, {1099511627775, 1099511627775}, {1099511627776, 1099511627776}, {1099511627777, 1099511627776}, {1099511627778, 1099511627776},
		{1<<40 + 1000, 1099511627776}, {1 << 41, 1099511627776}, {1<<48 + 5, 1099511627776}, {1 << 62, 1099511627776}, {most - 1, 1099511627776}, {most, 1099511627776},
	}
}

// twoBeats lets so many steps come in which a peak is learnt, and two are beats: at each step the at is what ats says.
func twoBeats(d *qrs.Detector, ats func(n int64) int64) []api.Beat {
	var l []api.Beat
	for n := range int64(700) {
		var w api.Wave
		if n == 100 || n == 500 || n == 600 {
			w.W = 1000
		}
		l = append(l, d.Push(ats(n), w)...)
	}
	return l
}

// P19.1: the at of step 0 counts as the nearest number from 0 to MaxAt, and that of no other step plays a part; behind Reset likewise.
func TestStart(t *testing.T) {
	var x noise
	for _, c := range starts() {
		want := []api.Beat{{At: c[1] + 462, Seen: c[1] + 501}, {At: c[1] + 562, Seen: c[1] + 601, RR: 100}}
		others := []func(n int64) int64{
			func(n int64) int64 { return c[0] + n },
			func(n int64) int64 { return c[0] },
			func(n int64) int64 { return 0 },
			func(n int64) int64 { return 5000 },
			func(n int64) int64 { return most - n },
			func(n int64) int64 { return least + n },
			func(n int64) int64 { return x.whole() },
		}
		d := made(t)
		for _, other := range others {
			ats := func(n int64) int64 {
				if n == 0 {
					return c[0]
				}
				return other(n)
			}
			same(t, twoBeats(made(t), ats), want)
			same(t, twoBeats(d, ats), want)
			d.Reset()
			isNew(t, d)
		}
	}
}

// P19.1: behind Reset it is the at of the first step since then that is the start, not that of the first one of all.
func TestStartOfReset(t *testing.T) {
	d := made(t)
	for _, c := range starts() {
		for steps := range int64(4) {
			for n := range steps {
				d.Push(7777-n, api.Wave{W: 9000})
			}
			d.Reset()
			same(t, twoBeats(d, func(n int64) int64 { return c[0] + n }), []api.Beat{{At: c[1] + 462, Seen: c[1] + 501}, {At: c[1] + 562, Seen: c[1] + 601, RR: 100}})
			d.Reset()
		}
	}
}

// P19.1: whatever H and E are, they play no part.
func TestOthersPlayNoPart(t *testing.T) {
	var x noise
	for _, v := range edges() {
		one, other := heldOf(t, 50), made(t)
		for n := range int64(900) {
			w := api.Wave{D: x.near(0, 40)}
			if n%90 == 50 {
				w.W = 900 + x.upTo(2000)
			}
			one.push(t, 50+n, w)
			w.H, w.E = v, -v
			if n%3 == 0 {
				w.H, w.E = x.whole(), x.whole()
			}
			same(t, other.Push(50+n, w), one.beats)
			stands(t, other, n+1, n < 400, one.words.toldLevel(), one.words.mean())
			one.beats = nil
		}
	}
}

// P19.1: W and D at all edges, while it learns, and behind it: sums count as from 0 to BoundWindow, slopes as at most BoundSlope from 0.
func TestEdgesOfWaves(t *testing.T) {
	for i, a := range edges() {
		for j, b := range edges() {
			// Each of them meets many of the others; all would take long.
			if (i+j)%6 != 0 {
				continue
			}
			h := heldOf(t, 9)
			h.peak(t, 50, a, b)
			h.peak(t, 100, 2000, 30)
			for i := range int64(4) {
				h.peak(t, 405+i*90, a, b)
				h.peak(t, 450+i*90, max(b, 1500), a)
			}
			h.quiet(t, 900)
		}
	}
}

// P19.1: tops and slopes beyond the bounds, written out.
func TestBeyondTheBounds(t *testing.T) {
	for _, top := range []int64{bound, bound + 1, 2 * bound, 1 << 40, most} {
		for _, slope := range []int64{steep, -steep, steep + 1, -steep - 1, 1 << 40, most, least} {
			h := learnt(t, top)
			h.knows(t, bound, 0)
			h.peak(t, 500, top, slope)
			// 53567 by two is below what BoundSlope is; 53568 is not.
			h.peak(t, 560, top, -53567)
			h.told(t, at(500, 501, 0))
			h.knows(t, bound, 7864320)
			h.peak(t, 562, top, -53568)
			h.told(t, at(562, 563, 62))
			h.knows(t, bound, 7864320)
			// Below 0 it is as 0: no valley is deeper.
			h.step(t, -top, 0)
			h.step(t, 64, 0)
			h.quiet(t, 640)
			h.told(t)
		}
	}
}

// P19.1: it is the greatest distance of a slope from 0 that counts, from where it begins to rise up to where the peak is seen.
func TestSlopesOfAPeak(t *testing.T) {
	for place := range int64(6) {
		for _, slope := range []int64{30, -30} {
			h := beating(t, 120, 60)
			h.quiet(t, 670)
			// It rises at the second of these steps, and is seen at the fifth one.
			for n, sum := range []int64{64, 700, 3000, 2000, 1400, 0} {
				var d int64 = 29
				if int64(n) == place {
					d = slope
				}
				h.step(t, sum, d)
			}
			if place >= 1 && place <= 4 {
				h.told(t, at(672, 674, 52))
			} else {
				h.told(t)
				h.knows(t, 4000, 375)
			}
		}
	}
}

// Two detectors go each its own way.
func TestTwo(t *testing.T) {
	var x noise
	var a, b source
	b.upTo(5)
	one, other := heldOf(t, 500), heldOf(t, 90000)
	for i := range 3000 {
		a.row(t, one, i%kinds, int(1+x.upTo(7)))
		b.row(t, other, mixed, int(1+x.upTo(7)))
		if x.upTo(400) == 0 {
			other.reset(t)
		}
		stands(t, one.Detector, one.words.n, one.words.n <= 400, one.words.toldLevel(), one.words.mean())
	}
	if len(one.beats) == 0 || other.words.n == one.words.n {
		t.Error("no beats, or no resets")
	}
}

// R5: the same calls come to the same, however often it is asked between.
func TestAskingDoesNothing(t *testing.T) {
	var x noise
	var s source
	one := heldOf(t, 77)
	other, third := made(t), made(t)
	for range 20000 {
		w := s.next(mixed, &one.words)
		was := len(one.beats)
		one.push(t, 77+one.words.n, w)
		for range x.upTo(3) {
			third.Steps()
			third.Learning()
			third.Level()
			third.Mean()
		}
		same(t, other.Push(77+other.Steps(), w), one.beats[was:])
		same(t, third.Push(77+third.Steps(), w), one.beats[was:])
	}
	if other.Level() != one.Level() || third.Level() != one.Level() || other.Mean() != one.Mean() || third.Mean() != one.Mean() {
		t.Error("they stand otherwise")
	}
}

// R4: an answer that was given stays as it was; and whoever gets it may change it, and put more behind it.
func TestAnswersStay(t *testing.T) {
	var s source
	h, other := heldOf(t, 300), made(t)
	var given, kept [][]api.Beat
	for n := range int64(30000) {
		w := s.next(int(n/5000)%2, &h.words)
		l := h.Push(300+n, w)
		same(t, l, h.words.push(300+n, w))
		if len(l) > 0 {
			given, kept = append(given, l), append(kept, slices.Clone(l))
		}
		spoilt := other.Push(300+n, w)
		same(t, spoilt, l)
		spoilt = append(spoilt, api.Beat{At: -1, Seen: -1, RR: -1, Back: true})
		spoilt = spoilt[:cap(spoilt)]
		for i := range spoilt {
			spoilt[i] = api.Beat{At: -2, Seen: -2, RR: -2, Back: true}
		}
	}
	h.Reset()
	for i := range given {
		same(t, given[i], kept[i])
	}
	if len(given) < 100 {
		t.Errorf("only %d answers", len(given))
	}
}

// Many beats are never told at one step.
func TestOneAStep(t *testing.T) {
	var s source
	h := heldOf(t, 0)
	for range 40000 {
		w := s.next(1, &h.words)
		was := len(h.beats)
		h.push(t, h.words.n, w)
		if len(h.beats) > was+1 {
			t.Fatalf("at step %d: %v", h.words.n-1, h.beats[was:])
		}
	}
}
