package qrs_test

import (
	"testing"
)

// state brings a detector to stand somewhere.
type state struct {
	name string
	to   func(t *testing.T) *held
}

// states are all kinds of how a detector may stand.
func states() []state {
	return []state{
		{"new", func(t *testing.T) *held { return heldOf(t, 3000) }},
		{"after one step", func(t *testing.T) *held {
			h := heldOf(t, 3000)
			h.step(t, 0, 0)
			return h
		}},
		{"rising while it learns", func(t *testing.T) *held {
			h := heldOf(t, 3000)
			h.quiet(t, 20)
			h.step(t, 9000, steep)
			return h
		}},
		{"learning, with much to learn from", func(t *testing.T) *held {
			h := heldOf(t, 3000)
			h.lows(t, low{20, 9000}, low{100, 80000}, low{200, bound})
			return h
		}},
		{"at step Learn - 1", func(t *testing.T) *held {
			h := heldOf(t, 3000)
			h.lows(t, low{20, 9000})
			h.quiet(t, 399)
			return h
		}},
		{"at step Learn", func(t *testing.T) *held {
			h := heldOf(t, 3000)
			h.lows(t, low{20, 9000})
			h.quiet(t, 400)
			return h
		}},
		{"behind step Learn", func(t *testing.T) *held { return learnt(t, 9000) }},
		{"without a beat, but with a candidate", func(t *testing.T) *held {
			h := learnt(t, 9000)
			h.lows(t, low{450, 2000})
			return h
		}},
		{"with one beat", func(t *testing.T) *held {
			h := learnt(t, 9000)
			h.peak(t, 450, 9000, steep)
			return h
		}},
		{"with beats", func(t *testing.T) *held { return beating(t, 60, steep) }},
		{"with a candidate", func(t *testing.T) *held {
			h := beating(t, 60, steep)
			h.lows(t, low{670, 1000})
			return h
		}},
		{"with one that is late, but too low", func(t *testing.T) *held {
			h := beating(t, 60, steep)
			h.lows(t, low{670, 300})
			h.quiet(t, 900)
			return h
		}},
		{"rising, and late", func(t *testing.T) *held {
			h := beating(t, 60, steep)
			h.lows(t, low{670, 300})
			h.quiet(t, 900)
			h.step(t, 9000, steep)
			return h
		}},
		{"behind one that was found", func(t *testing.T) *held {
			h := beating(t, 60, steep)
			h.lows(t, low{670, 1000}, low{690, 999})
			h.quiet(t, 800)
			return h
		}},
		{"in the midst of a peak of the bound", func(t *testing.T) *held {
			h := beating(t, 60, 30)
			h.quiet(t, 700)
			h.step(t, most, least)
			return h
		}},
		{"after a long row", func(t *testing.T) *held {
			var s source
			h := heldOf(t, 3000)
			s.row(t, h, mixed, 5000)
			return h
		}},
	}
}

// P19.3: Reset, once or twice, of a detector that stands as it may: as New, by all calls, in all that comes behind it.
func TestReset(t *testing.T) {
	for _, s := range states() {
		for times := 1; times <= 2; times++ {
			for kind := range kinds {
				t.Run(s.name, func(t *testing.T) {
					var waves source
					h := s.to(t)
					for range times {
						h.reset(t)
					}
					h.start = 40
					waves.row(t, h, kind, 1500)
				})
			}
		}
	}
}

// P19.3: written out: nothing of what was learnt, of the last beat, of the candidate, of the distances, or of a rise plays a part behind Reset.
func TestResetWrittenOut(t *testing.T) {
	for _, s := range states() {
		h := s.to(t)
		h.reset(t)
		h.start = 1000
		// In the midst of a rise this sum would be another peak.
		h.step(t, 5, 0)
		h.peak(t, 100, 2000, 30)
		h.quiet(t, 401)
		h.knows(t, 2000, 0)
		h.lows(t, low{410, 300}, low{430, 300})
		h.knows(t, 2000, 69)
		h.quiet(t, 500)
		h.told(t)
		h.peak(t, 500, 1000, 0)
		h.told(t, at(500, 501, 0))
		stands(t, h.Detector, 502, false, h.words.level, 0)
		h.peak(t, 541, 1000, 0)
		h.told(t, at(541, 542, 41))
		stands(t, h.Detector, 543, false, h.words.level, 41)
	}
}

// P19.3: Reset behind each number of steps while it learns, and some behind.
func TestResetBehindEachStep(t *testing.T) {
	var s source
	h := heldOf(t, 0)
	for steps := range 450 {
		h.start = int64(steps)
		s.row(t, h, steps%kinds, steps)
		h.reset(t)
	}
	s.row(t, h, 0, 3000)
	if len(h.beats) == 0 {
		t.Error("no beats")
	}
}
