package qrs_test

import (
	"testing"
)

// P19.1: a peak whose At is less than Refr behind the last beat's: nothing, however high or steep it is, and it is no candidate; just at Refr it is judged.
func TestRefr(t *testing.T) {
	for behind := int64(2); behind < 40; behind++ {
		for _, top := range []int64{65, 600, 1000, 1001, 4000, 5000, most} {
			for _, slope := range []int64{0, 14, 30, steep} {
				h := beating(t, 120, 30)
				h.peak(t, 620+behind, top, slope)
				h.told(t)
				h.knows(t, 4000, 0)
				// Ahead of the step at which it would be late, at it, and behind it.
				h.quiet(t, 830)
				h.told(t)
				h.knows(t, 4000, 0)
			}
		}
	}
	for behind := int64(40); behind < 44; behind++ {
		h := beating(t, 120, 30)
		h.peak(t, 620+behind, 4800, 30)
		h.told(t, at(620+behind, 621+behind, behind))
		h.knows(t, 4100, 0)

		h = beating(t, 120, 30)
		h.peak(t, 620+behind, 600, 30)
		h.told(t)
		h.knows(t, 4000, 75)
		h.quiet(t, 821)
		h.told(t)
		h.quiet(t, 830)
		h.told(t, back(620+behind, 821, behind))
	}
}

// P19.1: it is At that is looked at, and not where the peak is seen, nor where the last beat was.
func TestRefrOfWidePeaks(t *testing.T) {
	for _, many := range []int64{1, 2, 5, 40, 100} {
		h := beating(t, 120, 30)
		h.wide(t, 659, many, 4800, 30)
		h.told(t)
		h.knows(t, 4000, 0)

		h = beating(t, 120, 30)
		h.wide(t, 660, many, 4800, 30)
		h.told(t, at(660, 660+many, 40))
	}
	// The last beat is told long behind its place.
	h := learnt(t, 4000)
	h.wide(t, 450, 38, 4000, 30)
	h.told(t, at(450, 488, 0))
	h.peak(t, 489, 9000, 30)
	h.told(t)
	h.peak(t, 491, 4000, 30)
	h.told(t, at(491, 492, 41))
}

// P19.1: it is the last beat that is looked at, and not one ahead of it.
func TestRefrOfTheLast(t *testing.T) {
	h := beating(t, 120, 30)
	for step := int64(660); step < 1500; step += 40 {
		h.peak(t, step-2, 9000, 30)
		h.peak(t, step, 4000, 30)
		h.told(t, at(step, step+1, 40))
		h.knows(t, 4000, 0)
	}
}

// P19.1: a peak above Upper within TWave behind the last beat: twice its Steep below that of the last beat, the level is Noise of it, and it is not kept; else it is a beat. Written out: the last beat's, and the greatest one that is below half of it.
func TestTWave(t *testing.T) {
	for _, c := range []struct{ last, flat int64 }{
		{1, 0}, {2, 0}, {3, 1}, {4, 1}, {29, 14}, {30, 14}, {31, 15}, {32, 15}, {1000, 499}, {1001, 500}, {steep - 1, 53567}, {steep, 53567}, {-30, 14}, {most, 53567},
	} {
		for _, behind := range []int64{40, 41, 55, 70, 71} {
			for _, slope := range []int64{0, c.flat / 2, c.flat, -c.flat} {
				h := beating(t, 120, c.last)
				h.peak(t, 620+behind, 3000, slope)
				h.told(t)
				h.knows(t, 4000, 375)
				h.quiet(t, 830)
				h.told(t)
				h.knows(t, 4000, 375)
			}
			for _, slope := range []int64{c.flat + 1, -c.flat - 1, c.flat + 2, c.last, steep} {
				h := beating(t, 120, c.last)
				h.peak(t, 620+behind, 3000, slope)
				h.told(t, at(620+behind, 621+behind, behind))
				h.knows(t, 3875, 0)
			}
		}
	}
}

// P19.1: from TWave on it is a beat, however flat it is.
func TestBehindTWave(t *testing.T) {
	for behind := int64(72); behind < 76; behind++ {
		for _, slope := range []int64{0, 1, 14, 15, 30} {
			h := beating(t, 120, 30)
			h.peak(t, 620+behind, 3000, slope)
			h.told(t, at(620+behind, 621+behind, behind))
			h.knows(t, 3875, 0)
		}
	}
	// Its place is looked at, not where it is seen.
	h := beating(t, 120, 30)
	h.wide(t, 691, 50, 3000, 14)
	h.told(t)
	h.knows(t, 4000, 375)
	h = beating(t, 120, 30)
	h.wide(t, 692, 50, 3000, 14)
	h.told(t, at(692, 742, 72))
}

// P19.1: behind a beat that was not steep at all there is none that is flat.
func TestTWaveOfAFlatBeat(t *testing.T) {
	h := beating(t, 120, 0)
	h.peak(t, 660, 3000, 0)
	h.told(t, at(660, 661, 40))
}

// P19.1: it is the Steep of the last beat that it is held against, and not one ahead of it; that of one that was found by looking back, too.
func TestTWaveOfTheLast(t *testing.T) {
	h := beating(t, 120, 30)
	h.peak(t, 700, 4000, 100)
	h.peak(t, 750, 4000, 49)
	h.told(t, at(700, 701, 80))
	h.knows(t, 4000, 500)
	h.peak(t, 800, 4000, 10)
	h.peak(t, 850, 4000, 5)
	h.told(t, at(800, 801, 100), at(850, 851, 50))

	for _, slope := range []int64{24, 25} {
		h = beating(t, 120, 30)
		h.peak(t, 770, 900, 50)
		h.quiet(t, 820)
		h.told(t)
		h.peak(t, 820, 8, 0)
		h.told(t, back(770, 821, 150))
		h.peak(t, 830, 3225, slope)
		if slope == 24 {
			h.told(t)
			h.knows(t, 3225, 501)
		} else {
			h.told(t, at(830, 831, 60))
			h.knows(t, 3225, 112)
		}
	}
}

// P19.1: one that is flat, and not above Upper, is kept as any other one.
func TestFlatAndLow(t *testing.T) {
	h := beating(t, 120, 30)
	h.peak(t, 670, 1000, 0)
	h.told(t)
	h.knows(t, 4000, 125)
	h.quiet(t, 822)
	h.told(t, back(670, 821, 50))
	h.knows(t, 3250, 125)

	h = beating(t, 120, 30)
	h.peak(t, 670, 1001, 0)
	h.told(t)
	h.knows(t, 4000, 125)
	h.quiet(t, 822)
	h.told(t)
}

// P19.1: without a last beat a peak above Upper is one, however flat it is, and however soon.
func TestWithoutALastBeat(t *testing.T) {
	for step := int64(402); step < 480; step += 7 {
		for _, slope := range []int64{0, 1, 30, least} {
			h := learnt(t, 4000)
			h.peak(t, step, 1001, slope)
			h.told(t, at(step, step+1, 0))
			h.knows(t, 3625, 0)
		}
	}
	// Also one that began so soon that it would be too soon behind a beat at the first step.
	for step := int64(1); step < 80; step++ {
		h := heldOf(t, 1000)
		h.wide(t, step, 420-step, 257, 0)
		h.told(t, at(step, 420, 0))
		h.knows(t, 32, 0)
	}
}

// P19.1: at Upper it is none, the level is Noise of it, and it is kept; just above it is one. Written out: what was learnt, what comes ahead, and the greatest top that is none.
func TestUpper(t *testing.T) {
	for _, c := range []struct {
		learnt        int64
		ahead         []int64
		upper, behind int64
	}{
		{0, nil, 256, 32}, {1000, nil, 256, 32}, {1024, nil, 256, 32}, {1027, nil, 256, 32}, {1028, nil, 257, 32}, {1031, nil, 257, 32}, {1032, nil, 258, 32}, {4000, nil, 1000, 125}, {bound, nil, 15728640, 1966080},
		{4000, []int64{800}, 1075, 221}, {4000, []int64{800, 800}, 1140, 306}, {4000, []int64{80}, 1007, 134},
	} {
		for more := int64(-1); more <= 2; more++ {
			h := learnt(t, c.learnt)
			for i, top := range c.ahead {
				h.peak(t, int64(410+20*i), top, 30)
			}
			h.told(t)
			noise := h.Level().Noise
			h.peak(t, 500, c.upper+more, 30)
			if more > 0 {
				h.told(t, at(500, 501, 0))
				if h.Level().Noise != noise {
					t.Errorf("behind a beat the noise is %d; was %d", h.Level().Noise, noise)
				}
				continue
			}
			h.told(t)
			if more == 0 {
				h.knows(t, min(c.learnt, bound), c.behind)
			}
		}
	}
}

// P19.1: with a last beat at, and just above, Upper; and that the one at Upper is kept.
func TestUpperBehindABeat(t *testing.T) {
	h := beating(t, 120, 30)
	h.peak(t, 720, 1000, 30)
	h.told(t)
	h.knows(t, 4000, 125)
	h.quiet(t, 822)
	h.told(t, back(720, 821, 100))
	h = beating(t, 120, 30)
	h.peak(t, 720, 1001, 30)
	h.told(t, at(720, 721, 100))
	h.knows(t, 3625, 0)
}

// P19.1: each kind of peak behind one beat, of which each turns the level as the chapter says; written out.
func TestLevelGoesOn(t *testing.T) {
	h := beating(t, 120, 30)
	h.peak(t, 640, 7000, 30)
	h.knows(t, 4000, 0)
	h.peak(t, 665, 2000, 9)
	h.knows(t, 4000, 250)
	h.peak(t, 690, 1100, 9)
	h.knows(t, 4000, 356)
	h.peak(t, 700, 60, 30)
	h.knows(t, 4000, 356)
	h.peak(t, 710, 68, 30)
	h.knows(t, 4000, 320)
	h.peak(t, 720, 3000, 9)
	h.knows(t, 3875, 320)
	h.told(t, at(720, 721, 100))
	h.peak(t, 800, 6000, 9)
	h.knows(t, 4140, 320)
	h.told(t, at(800, 801, 80))
}
