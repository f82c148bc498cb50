package qrs_test

import (
	"testing"

	"systole/api"
)

// P19.1: in the first Learn steps no beat is told, however high the peaks are, however many, and wherever; and the level is 0 of both.
func TestNoBeatWhileItLearns(t *testing.T) {
	for _, top := range []int64{65, 256, 257, 1000, 100000, bound, most} {
		for _, apart := range []int64{2, 3, 39, 40, 41, 71, 72, 73, 100, 199, 300} {
			d := made(t)
			for n := range int64(400) {
				var w api.Wave
				// One at the last step would be judged.
				if n%apart == apart-1 && n < 399 {
					w = api.Wave{W: top, D: n}
				}
				same(t, d.Push(n, w), nil)
				stands(t, d, n+1, true, api.Level{}, 0)
			}
			same(t, d.Push(400, api.Wave{}), nil)
			stands(t, d, 401, false, api.Level{Signal: min(top, bound)}, 0)
		}
	}
}

// P19.1: a peak that is seen at step Learn - 1 is remembered, and no beat; one that is seen at step Learn is judged, and not remembered; wherever it began.
func TestLastToLearnFrom(t *testing.T) {
	for _, many := range []int64{1, 2, 50, 200} {
		h := heldOf(t, 1000)
		h.peak(t, 100, 4000, 30)
		h.wide(t, 399-many, many, 8000, 30)
		h.told(t)
		h.quiet(t, 401)
		h.told(t)
		h.knows(t, 8000, 0)

		h = heldOf(t, 1000)
		h.peak(t, 100, 4000, 30)
		h.wide(t, 400-many, many, 8000, 30)
		h.told(t, at(400-many, 400, 0))
		// An 8th of the way from what was learnt.
		h.knows(t, 4500, 0)
		h.quiet(t, 500)
		h.told(t)
	}
}

// P19.1: at step Learn the level is First of no peak, of one, and of many, wherever the greatest one is; written out.
func TestFirst(t *testing.T) {
	for _, c := range []struct {
		tops []int64
		want int64
	}{
		{nil, 0}, {[]int64{64}, 0}, {[]int64{65}, 65}, {[]int64{256}, 256}, {[]int64{1000}, 1000}, {[]int64{bound}, bound}, {[]int64{most}, bound}, {[]int64{least}, 0},
		{[]int64{800, 1600}, 1600}, {[]int64{1600, 800}, 1600}, {[]int64{1600, 1600}, 1600}, {[]int64{70, 0, -9, 80}, 80},
		{[]int64{1, 2, 3, 900, 4, 5}, 900}, {[]int64{500, 400, 300, 200, 100}, 500}, {[]int64{100, 200, 300, 400, 500}, 500}, {[]int64{300, 100, 500, 200, 400}, 500},
	} {
		h := heldOf(t, 1000)
		for i, top := range c.tops {
			h.peak(t, int64(10+50*i), top, 30)
		}
		h.quiet(t, 400)
		h.knows(t, 0, 0)
		h.quiet(t, 401)
		h.knows(t, c.want, 0)
		h.told(t)
	}
}

// P19.1: likewise of very many peaks: as many as there can be while it learns, each of them being the greatest once.
func TestFirstOfVeryMany(t *testing.T) {
	for greatest := range int64(199) {
		h := heldOf(t, 0)
		for i := range int64(199) {
			top := int64(2000)
			if i == greatest {
				top = 2001
			}
			h.peak(t, 1+2*i, top, 3)
		}
		h.quiet(t, 401)
		h.knows(t, 2001, 0)
		if len(h.words.remembered) != 199 {
			t.Fatalf("%d are remembered", len(h.words.remembered))
		}
	}
}

// P19.1: the peaks that are learnt from in each order come to the same.
func TestFirstInEachOrder(t *testing.T) {
	for _, row := range orders(300, 700, 900, 901, 5000) {
		h := heldOf(t, 0)
		for i, top := range row {
			h.peak(t, int64(20+70*i), top, 30)
		}
		h.quiet(t, 401)
		h.knows(t, 5000, 0)
	}
}

// P19.1: First is laid ahead of what step Learn's own peak does: that peak turns it, be it a beat or not; written out.
func TestFirstAheadOfItsOwnPeak(t *testing.T) {
	for _, c := range []struct {
		learnt, top   int64
		beat          bool
		signal, noise int64
	}{
		{4000, 8000, true, 4500, 0}, {4000, 4000, true, 4000, 0}, {4000, 3999, true, 3999, 0}, {4000, 1001, true, 3625, 0}, {4000, 1000, false, 4000, 125}, {4000, 900, false, 4000, 112}, {4000, 65, false, 4000, 8},
		{0, 1000, true, 125, 0}, {0, 257, true, 32, 0}, {0, 256, false, 0, 32}, {0, 100, false, 0, 12}, {1000, 257, true, 907, 0}, {1000, 256, false, 1000, 32},
	} {
		h := heldOf(t, 1000)
		h.peak(t, 100, c.learnt, 30)
		h.peak(t, 399, c.top, 30)
		if c.beat {
			h.told(t, at(399, 400, 0))
		}
		h.told(t)
		h.knows(t, c.signal, c.noise)
	}
}

// P19.1: without anything that was learnt it is Least alone that a peak must be above.
func TestNothingLearnt(t *testing.T) {
	h := learnt(t, 0)
	h.peak(t, 450, 256, 30)
	h.told(t)
	h.knows(t, 0, 32)
	h.peak(t, 500, 257, 30)
	h.told(t, at(500, 501, 0))
	h.knows(t, 32, 32)
}

// P19.3: Learning is true as long as the next step is not above Learn, and Level 0 of both as long as step Learn has not been.
func TestLearningTurns(t *testing.T) {
	for _, top := range []int64{0, 70, 4000, most} {
		d := made(t)
		for n := range int64(500) {
			signal := int64(0)
			if n > 400 && top > 0 {
				signal = min(top, bound)
			}
			stands(t, d, n, n <= 400, api.Level{Signal: signal}, 0)
			var w api.Wave
			if n == 200 {
				w.W = top
			}
			same(t, d.Push(n, w), nil)
		}
	}
}
