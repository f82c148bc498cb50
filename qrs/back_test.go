package qrs_test

import (
	"testing"

	"systole/api"
)

// low is a low peak: its step, and its top.
type low struct{ step, top int64 }

// lows lets low peaks come, none of which is told.
func (h *held) lows(t *testing.T, l ...low) {
	t.Helper()
	for _, p := range l {
		h.peak(t, p.step, p.top, 30)
		h.told(t)
	}
}

// P19.1: the candidate is the highest peak of those that were kept, the first one of equal ones; written out: which of them it is.
func TestCandidate(t *testing.T) {
	for _, c := range []struct {
		l             []low
		is            int
		signal, noise int64
	}{
		{[]low{{670, 600}}, 0, 3150, 75},
		{[]low{{660, 700}}, 0, 3175, 87},
		{[]low{{670, 700}, {700, 650}}, 0, 3175, 157},
		{[]low{{670, 650}, {700, 700}}, 1, 3175, 158},
		{[]low{{670, 700}, {700, 700}}, 0, 3175, 163},
		{[]low{{670, 700}, {700, 699}}, 0, 3175, 163},
		{[]low{{670, 699}, {700, 700}}, 1, 3175, 163},
		{[]low{{670, 600}, {700, 700}, {730, 700}, {760, 650}}, 1, 3175, 274},
		{[]low{{670, 100}, {690, 100}, {710, 100}, {730, 800}, {750, 100}, {770, 799}, {790, 800}}, 3, 3200, 282},
	} {
		h := beating(t, 120, 30)
		h.lows(t, c.l...)
		h.quiet(t, 821)
		h.told(t)
		h.quiet(t, 822)
		found := c.l[c.is]
		h.told(t, back(found.step, 821, found.step-620))
		h.knows(t, c.signal, c.noise)
		// The others are gone.
		h.quiet(t, 2500)
		h.told(t)
		h.knows(t, c.signal, c.noise)
	}
}

// P19.1: in each order of heights it is the highest one.
func TestCandidateInEachOrder(t *testing.T) {
	for _, tops := range orders(700, 720, 740, 760) {
		h := beating(t, 120, 30)
		var step int64
		for i, top := range tops {
			h.lows(t, low{int64(670 + 30*i), top})
			if top == 760 {
				step = int64(670 + 30*i)
			}
		}
		h.quiet(t, 822)
		h.told(t, back(step, 821, step-620))
	}
}

// P19.1: it is looked back just at the step at which it is Late, and not one ahead; written out: the distance of both beats, and how far behind the last one it is found.
func TestLate(t *testing.T) {
	for _, c := range []struct{ gap, found int64 }{
		{60, 101}, {61, 102}, {62, 104}, {63, 106}, {100, 167}, {118, 197}, {119, 199}, {120, 201}, {121, 202}, {122, 204}, {200, 334}, {217, 362},
	} {
		for _, behind := range []int64{40, 45, 58} {
			h := beating(t, c.gap, 30)
			h.lows(t, low{620 + behind, 700})
			h.quiet(t, 620+c.found)
			h.told(t)
			h.knows(t, 4000, 87)
			h.quiet(t, 620+c.found+1)
			h.told(t, back(620+behind, 620+c.found, behind))
			h.knows(t, 3175, 87)
		}
	}
}

// P19.1: one that is kept when it is late already is found at the very step at which it is seen.
func TestLateAlready(t *testing.T) {
	for _, step := range []int64{820, 821, 822, 900, 5000} {
		h := beating(t, 120, 30)
		h.lows(t, low{step, 40})
		h.peak(t, step+10, 700, 30)
		h.told(t, back(step+10, step+11, step-610))
		h.knows(t, 3175, 87)
	}
}

// P19.1: a candidate at Lower, and just above it; written out. Its own Noise is in it: of 524 it is 65, so that Upper is 1048.
func TestLower(t *testing.T) {
	for _, top := range []int64{500, 501, 502, 520, 523, 524} {
		h := beating(t, 120, 30)
		h.lows(t, low{700, top})
		h.quiet(t, 3000)
		h.told(t)
	}
	for _, top := range []int64{525, 526, 600} {
		h := beating(t, 120, 30)
		h.lows(t, low{700, top})
		h.quiet(t, 822)
		h.told(t, back(700, 821, 80))
	}
}

// P19.1: Lower is never below half of Least.
func TestLowerOfLeast(t *testing.T) {
	for top := int64(120); top < 140; top++ {
		h := learnt(t, 900)
		h.peak(t, 500, 900, 30)
		h.peak(t, 620, 900, 30)
		h.told(t, at(500, 501, 0), at(620, 621, 120))
		h.lows(t, low{700, top})
		h.quiet(t, 1000)
		if top > 128 {
			h.told(t, back(700, 821, 80))
		} else {
			h.told(t)
		}
	}
}

// P19.1: one that was too low when it became late is found when Lower has come down below it.
func TestLowerComesDown(t *testing.T) {
	h := beating(t, 120, 30)
	h.lows(t, low{662, 700})
	// Flat ones, not kept: they bring Noise up.
	h.peak(t, 670, 3900, 5)
	h.peak(t, 680, 3900, 5)
	h.told(t)
	h.knows(t, 4000, 980)
	h.quiet(t, 900)
	h.told(t)
	var step int64
	for step = 900; len(h.beats) == 0 && step < 2000; step += 10 {
		h.peak(t, step, 100, 30)
	}
	// Upper is 1411 behind step 941, and 1369 at 951, of which the half is below 700.
	h.told(t, back(662, 951, 42))
	h.knows(t, 3175, 492)
}

// P19.1: what came is not looked back for without a candidate, however late it is.
func TestNoCandidate(t *testing.T) {
	h := beating(t, 120, 30)
	h.quiet(t, 5000)
	h.told(t)
	h.knows(t, 4000, 0)
	h.peak(t, 5000, 4000, 30)
	h.told(t, at(5000, 5001, 4380))
}

// P19.1: nor is it without a last beat, nor as long as there is but one, of which there is no distance.
func TestNoDistance(t *testing.T) {
	h := learnt(t, 4000)
	h.lows(t, low{450, 900}, low{500, 900})
	h.quiet(t, 3000)
	h.told(t)
	h.peak(t, 3000, 4000, 30)
	h.told(t, at(3000, 3001, 0))
	h.lows(t, low{3050, 900})
	h.quiet(t, 6000)
	h.told(t)
	h.peak(t, 6000, 4000, 30)
	h.told(t, at(6000, 6001, 3000))
	stands(t, h.Detector, 6002, false, h.words.level, 3000)
}

// P19.1: what was kept ahead of the first beat is not found behind it.
func TestKeptAheadOfTheFirst(t *testing.T) {
	h := learnt(t, 4000)
	h.lows(t, low{450, 900})
	h.peak(t, 500, 4000, 30)
	h.peak(t, 620, 4000, 30)
	h.told(t, at(500, 501, 0), at(620, 621, 120))
	h.quiet(t, 2000)
	h.told(t)
}

// P19.1: at the step at which it becomes late there is a peak, too. A beat: there is no candidate any more.
func TestBeatWhenLate(t *testing.T) {
	h := beating(t, 120, 30)
	h.lows(t, low{700, 700})
	h.peak(t, 820, 4000, 30)
	h.told(t, at(820, 821, 200))
	h.knows(t, 4000, 87)
	h.quiet(t, 3000)
	h.told(t)
}

// P19.1: one that is kept at that step: it is among those of which the candidate is the highest.
func TestKeptWhenLate(t *testing.T) {
	for _, c := range []struct {
		l     []low
		found int64
	}{
		{nil, 820}, {[]low{{700, 600}}, 820}, {[]low{{700, 699}}, 820}, {[]low{{700, 700}}, 700}, {[]low{{700, 800}}, 700}, {[]low{{670, 100}, {700, 699}}, 820}, {[]low{{670, 700}, {700, 699}}, 670},
	} {
		h := beating(t, 120, 30)
		h.lows(t, c.l...)
		h.peak(t, 820, 700, 30)
		h.told(t, back(c.found, 821, c.found-620))
		h.quiet(t, 2000)
		h.told(t)
	}
}

// P19.1: what that step's peak does to the level comes first: Lower is that behind it.
func TestNoiseAheadOfLower(t *testing.T) {
	// The beats are 40 apart, so that it becomes late within TWave, where a flat one is not kept.
	for _, c := range []struct {
		top, noise int64
		found      bool
	}{{700, 451, true}, {668, 447, true}, {667, 447, false}, {666, 447, false}, {650, 445, false}} {
		h := beating(t, 40, 30)
		h.lows(t, low{661, c.top})
		h.peak(t, 686, 3000, 9)
		if c.found {
			h.told(t, back(661, 687, 41))
			h.knows(t, goes(4000, c.top, 4), c.noise)
		} else {
			h.told(t)
			h.knows(t, 4000, c.noise)
		}
		// Without it each of them is found.
		h = beating(t, 40, 30)
		h.lows(t, low{661, c.top})
		h.quiet(t, 688)
		h.told(t, back(661, 687, 41))
	}
}

// P19.2: what was kept is gone behind a beat, be it one of its own, or found by looking back; and what is kept since then may be found.
func TestKeptIsGone(t *testing.T) {
	h := beating(t, 120, 30)
	h.lows(t, low{700, 900})
	h.peak(t, 750, 4000, 30)
	h.told(t, at(750, 751, 130))
	h.quiet(t, 2000)
	h.told(t)

	h = beating(t, 120, 30)
	h.lows(t, low{700, 900}, low{720, 950}, low{810, 940})
	h.quiet(t, 822)
	h.told(t, back(720, 821, 100))
	// 940 would be high enough, and late from 720 + 184 on.
	h.quiet(t, 2000)
	h.told(t)

	h = beating(t, 120, 30)
	h.lows(t, low{700, 950})
	h.peak(t, 750, 4000, 30)
	h.told(t, at(750, 751, 130))
	h.lows(t, low{830, 700})
	h.quiet(t, 2000)
	h.told(t, back(830, 959, 80))
}

// P19.1: beats that have become low are found one by one, each one behind the one ahead, till Upper has come down to them.
func TestFoundAgainAndAgain(t *testing.T) {
	h := beating(t, 100, 30)
	var want []api.Beat
	for i := range int64(12) {
		h.peak(t, 720+100*i, 800, 30)
	}
	for i, found := range []int64{787, 887} {
		step := int64(720 + 100*i)
		want = append(want, back(step, found, 100))
	}
	for step := int64(920); step <= 1820; step += 100 {
		want = append(want, at(step, step+1, 100))
	}
	h.quiet(t, 1900)
	h.told(t, want...)
}

// P19.1: the level is Again of one that was found, and Signal of one that was not; written out.
func TestAgain(t *testing.T) {
	for _, c := range []struct{ top, signal, noise int64 }{
		{525, 3131, 65}, {526, 3131, 65}, {527, 3131, 65}, {528, 3132, 66}, {600, 3150, 75}, {999, 3249, 124}, {1000, 3250, 125},
	} {
		h := beating(t, 120, 30)
		h.lows(t, low{700, c.top})
		h.quiet(t, 822)
		h.told(t, back(700, 821, 80))
		h.knows(t, c.signal, c.noise)
	}
	for _, c := range []struct{ top, signal int64 }{{1001, 3625}, {1008, 3626}, {3999, 3999}, {4000, 4000}, {4007, 4000}, {4008, 4001}, {12000, 5000}} {
		h := beating(t, 120, 30)
		h.peak(t, 700, c.top, 30)
		h.told(t, at(700, 701, 80))
		h.knows(t, c.signal, 0)
	}
}

// P19.1: it is behind the last beat that it is late, be that one found by looking back; and by the mean in which that one's distance is.
func TestLateBehindOneThatWasFound(t *testing.T) {
	h := beating(t, 120, 30)
	h.lows(t, low{700, 700})
	h.quiet(t, 822)
	h.told(t, back(700, 821, 80))
	stands(t, h.Detector, 822, false, api.Level{Signal: 3175, Noise: 87}, 100)
	h.lows(t, low{830, 700})
	// 166 is the floor of five thirds of 100: 700 + 167.
	h.quiet(t, 867)
	h.told(t)
	h.quiet(t, 868)
	h.told(t, back(830, 867, 130))
	h.quiet(t, 868)
	stands(t, h.Detector, 868, false, h.words.level, 110)
}

// P19.1: a beat that is told far behind its place is late at once, where it is: what is kept behind it is found when it is seen.
func TestLateBehindAWideBeat(t *testing.T) {
	h := beating(t, 60, 30)
	h.wide(t, 700, 200, 4000, 30)
	h.told(t, at(700, 900, 80))
	h.peak(t, 905, 700, 30)
	h.told(t, back(905, 906, 205))
}
