package qrs_test

import (
	"testing"

	"systole/api"
)

// P19.2: a beat's RR is 0 of the first one, which counts in no mean; else how far its peak is behind that of the last beat, which does. Written out: the place, and the mean behind it.
func TestRR(t *testing.T) {
	h := learnt(t, 4000)
	last := int64(0)
	for i, c := range []struct{ step, mean int64 }{
		{450, 0}, {550, 100}, {610, 80}, {650, 66}, {800, 87}, {912, 92}, {1012, 93}, {1092, 91}, {1213, 95}, {1300, 93}, {1450, 105}, {1561, 113}, {1800, 125}, {1840, 116}, {6840, 728},
	} {
		h.peak(t, c.step, 4000, 30)
		if i == 0 {
			h.told(t, at(c.step, c.step+1, 0))
		} else {
			h.told(t, at(c.step, c.step+1, c.step-last))
		}
		last = c.step
		stands(t, h.Detector, c.step+2, false, api.Level{Signal: 4000}, c.mean)
	}
}

// P19.2: the distance of one that was found by looking back counts as any other one: Mean follows, and by it what is late.
func TestMeanFollows(t *testing.T) {
	h := beating(t, 100, 30)
	h.lows(t, low{660, 700})
	h.quiet(t, 788)
	h.told(t, back(660, 787, 40))
	stands(t, h.Detector, 788, false, h.words.level, 70)
	h.peak(t, 790, 4000, 30)
	h.told(t, at(790, 791, 130))
	stands(t, h.Detector, 792, false, h.words.level, 90)
	h.lows(t, low{840, 700})
	// Late is what is more than 150 behind 790.
	h.quiet(t, 941)
	h.told(t)
	h.quiet(t, 942)
	h.told(t, back(840, 941, 50))
	stands(t, h.Detector, 942, false, h.words.level, 80)
}

// P19.2: At is where the peak is, and Seen the step at which it is told, be they near or far, by Delay and the start; written out.
func TestAtAndSeen(t *testing.T) {
	for _, start := range []int64{0, 1, 37, 38, 1000, 1 << 32, maxAt} {
		for _, many := range []int64{1, 2, 30, 300} {
			h := heldOf(t, start)
			h.peak(t, 100, 4000, 30)
			h.wide(t, 402, many, 4000, 30)
			h.told(t, api.Beat{At: start + 364, Seen: start + 402 + many})
			h.wide(t, 800, many, 4000, 30)
			h.told(t, api.Beat{At: start + 762, Seen: start + 800 + many, RR: 398})
			h.peak(t, 1150, 600, 30)
			h.told(t)
			h.quiet(t, 1500)
			h.told(t, api.Beat{At: start + 1112, Seen: start + 1464, RR: 350, Back: true})
		}
	}
}

// P19.2: of a place that is less than Delay behind the start At is the start: just of those; written out: the start, the place of the first beat's peak, which is seen at step Learn, and its At.
func TestAtNotAheadOfTheStart(t *testing.T) {
	for _, c := range []struct{ start, place, at int64 }{
		{0, 1, 0}, {0, 2, 0}, {0, 36, 0}, {0, 37, 0}, {0, 38, 0}, {0, 39, 1}, {0, 40, 2}, {0, 399, 361},
		{1, 1, 1}, {1, 36, 1}, {1, 37, 1}, {1, 38, 1}, {1, 39, 2}, {20, 17, 20}, {20, 18, 20}, {20, 19, 20}, {20, 38, 20}, {20, 39, 21}, {35, 1, 35}, {36, 1, 36}, {37, 1, 37}, {37, 37, 37}, {38, 1, 38}, {38, 2, 38}, {39, 1, 39}, {39, 39, 40},
		{1000, 1, 1000}, {1000, 2, 1000}, {1000, 37, 1000}, {1000, 38, 1000}, {1000, 39, 1001}, {1000, 100, 1062}, {1000, 399, 1361},
		{-5, 1, 0}, {-5, 37, 0}, {-5, 38, 0}, {-5, 39, 1}, {-1000, 39, 1}, {least, 1, 0}, {least, 39, 1},
		{maxAt - 1, 1, 1099511627775}, {maxAt, 1, 1099511627776}, {maxAt, 38, 1099511627776}, {maxAt, 39, 1099511627777}, {most, 1, 1099511627776}, {most, 39, 1099511627777},
	} {
		h := heldOf(t, c.start)
		h.wide(t, c.place, 400-c.place, 1000, 30)
		start := min(max(c.start, 0), maxAt)
		h.told(t, api.Beat{At: c.at, Seen: start + 400})
		// Its place is what the next one's distance goes by, and not its At.
		h.peak(t, 450, 1000, 30)
		h.told(t, api.Beat{At: start + 412, Seen: start + 451, RR: 450 - c.place})
	}
}

// P19.2: so it is behind Reset, too: the start is then where it begins anew.
func TestAtNotAheadOfTheStartBehindReset(t *testing.T) {
	h := heldOf(t, 1000)
	for _, start := range []int64{5000, 30, 0, 1 << 32, 1000} {
		for _, place := range []int64{1, 37, 38, 39} {
			h.reset(t)
			h.start = start
			h.wide(t, place, 400-place, 1000, 30)
			h.told(t, api.Beat{At: start + place/39, Seen: start + 400})
		}
	}
}

// P19.2: Back is true of those that were found by looking back alone, and of all of them.
func TestBack(t *testing.T) {
	var s source
	h := heldOf(t, 0)
	s.row(t, h, 0, 60000)
	backs, others := 0, 0
	for _, b := range h.beats {
		if b.Back {
			backs++
		} else {
			others++
		}
	}
	if backs != h.words.did.found || others != h.words.did.high || backs < 10 || others < 100 {
		t.Errorf("%d and %d; %d were found, %d were not", backs, others, h.words.did.found, h.words.did.high)
	}
}

// P19.2: the mean is that of the last eight distances, behind very many beats, too.
func TestMeanOfMany(t *testing.T) {
	var x noise
	h := learnt(t, 3000)
	for range 300 {
		h.peak(t, h.words.n+38+x.upTo(120), 3000, 30)
	}
	if len(h.beats) != 300 {
		t.Errorf("%d beats", len(h.beats))
	}
}
