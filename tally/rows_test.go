package tally_test

import (
	"testing"

	"systole/api"
)

// deed lets one deed of any kind be done to a tally, near its last beat or far, and holds the tally against the chapter's words.
func (x *noise) deed(t *testing.T, h *held) {
	t.Helper()
	limits := h.words.limits
	at := h.words.last() + x.one(x.from(0, 400), x.from(0, 2*limits.Asys), limits.Asys+x.from(-2, 2), -x.from(0, 300))
	if x.upTo(10) == 0 {
		at = x.one(0, -5, maxAt-x.from(-3, 7000), x.whole(), most, least)
	}
	switch x.upTo(40) {
	case 0:
		h.reset(t)
	case 1, 2:
		h.begin(t, at)
	case 3, 4:
		h.beat(t, at)
	case 5, 6:
		if got, want := h.Still(at), h.words.still(at); got != want {
			t.Fatalf("the last one is at %d, Asys is %d; Still(%d): %v", h.words.last(), limits.Asys, at, got)
		}
	default:
		h.beat(t, at, x.row(limits, x.one(1, 1, 1, x.from(0, 4), x.from(0, 60)))...)
	}
}

// Long rows of random deeds, with small and great distances, by many limits, against a reckoning by the chapter's words.
func TestRows(t *testing.T) {
	var x noise
	var tach, brad, still int
	for range 300 {
		h := heldOf(t, x.limits())
		for range 500 {
			x.deed(t, h)
			if h.Tach() {
				tach++
			}
			if h.Brad() {
				brad++
			}
			if h.Still(h.words.last() + x.from(0, 6000)) {
				still++
			}
		}
	}
	if tach < 5000 || brad < 5000 || still < 5000 {
		t.Errorf("%d, %d and %d times", tach, brad, still)
	}
}

// Long rows of such distances as hearts have, beat by beat, and sample by sample, against the same reckoning.
func TestRowsSampleBySample(t *testing.T) {
	var x noise
	for range 10 {
		limits := x.limits()
		limits.Asys = 200 + x.upTo(500)
		h := heldOf(t, limits)
		next, last := int64(0), int64(0)
		mean := int64(100)
		for at := range int64(60000) {
			if at == next {
				var rr []int64
				if at > 0 {
					rr = append(rr, at-last)
				}
				h.beat(t, at, rr...)
				last = at
				if x.upTo(12) == 0 {
					mean = x.from(30, 700)
				}
				next = at + x.from(mean, mean+mean/8)
			}
			if got, want := h.Still(at), h.words.still(at); got != want || want != (at-last >= limits.Asys) {
				t.Fatalf("the last beat at %d, Asys %d, Still(%d): %v", last, limits.Asys, at, got)
			}
		}
	}
}

// To be asked does nothing: with it and without, all answers are the same.
func TestAskingDoesNothing(t *testing.T) {
	var x noise
	limits := often(2, 2)
	one, other := of(t, limits), of(t, limits)
	for range 5000 {
		at := x.upTo(3000)
		row := x.row(limits, x.upTo(4))
		if x.upTo(30) == 0 {
			one.Begin(at)
			other.Begin(at)
		}
		one.Beat(at, row...)
		other.Beat(at, row...)
		for range x.upTo(4) {
			one.Still(x.whole())
			one.Tach()
			one.Brad()
			one.Begun()
		}
		ask := x.upTo(5000)
		if one.Begun() != other.Begun() || one.Tach() != other.Tach() || one.Brad() != other.Brad() || one.Still(ask) != other.Still(ask) {
			t.Fatalf("unlike behind a beat at %d, with %v", at, row)
		}
	}
}

// P20.2: only Asys, Tach and TachN, Brad and BradN play a part in what a tally answers.
func TestOtherLimitsPlayNoPart(t *testing.T) {
	var x noise
	for range 50 {
		limits := x.limits()
		others := x.limits()
		unlike := limits
		unlike.Mains, unlike.Fib, unlike.FibN, unlike.Escape = others.Mains, others.Fib, others.FibN, others.Escape
		one, other := of(t, limits), of(t, unlike)
		for range 200 {
			at, row := x.upTo(5000), x.row(limits, x.upTo(5))
			one.Beat(at, row...)
			other.Beat(at, row...)
			ask := at + x.one(limits.Asys-1, limits.Asys)
			if one.Tach() != other.Tach() || one.Brad() != other.Brad() || one.Still(ask) != other.Still(ask) {
				t.Fatalf("unlike by %+v and %+v", limits, unlike)
			}
		}
	}
}

// P3: behind each beat of which the last TachN distances are at most Tach it is a tachycardia, and behind no other one; written out with a heart that goes faster, and slower again.
func TestFasterAndSlower(t *testing.T) {
	x := of(t, api.Limits{Mains: 50, Asys: 800, Tach: 100, TachN: 3, Brad: 240, BradN: 2, Fib: 200, FibN: 12, Escape: 2000})
	at := int64(1000)
	x.Beat(at, 0)
	for _, c := range []struct {
		rr         int64
		tach, brad bool
	}{
		{150, false, false}, {120, false, false}, {101, false, false}, {100, false, false}, {95, false, false}, {90, true, false}, {80, true, false}, {100, true, false}, {110, false, false},
		{200, false, false}, {239, false, false}, {240, false, false}, {260, false, true}, {300, false, true}, {230, false, false}, {250, false, false}, {90, false, false}, {250, false, false}, {250, false, true},
	} {
		at += c.rr
		x.Beat(at, c.rr)
		is(t, x, true, c.tach, c.brad)
		stillFrom(t, x, at+800)
	}
}
