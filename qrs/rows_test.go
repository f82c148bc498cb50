package qrs_test

import (
	"testing"

	"systole/api"
)

// P19.1 to P19.3: long rows of each kind, step by step, against the chapter's words.
func TestRows(t *testing.T) {
	for kind := range kinds {
		s := source{noise: noise(kind + 1)}
		var all did
		for range 120 {
			h := heldOf(t, s.one(0, 1000, -5, 38, maxAt-5))
			s.row(t, h, kind, 4000)
			all.add(h.words.did)
		}
		fewest := []did{
			{soon: 100, flat: 100, kept: 100, high: 500, found: 50},
			{soon: 100, flat: 100, kept: 500, high: 500, found: 100},
			{soon: 1000, flat: 100, kept: 300, high: 1000},
			{kept: 100, high: 1000},
			{kept: 100, high: 100},
			{soon: 20, flat: 20, kept: 100, high: 100, found: 20},
		}[kind]
		if all.soon < fewest.soon || all.flat < fewest.flat || all.kept < fewest.kept || all.high < fewest.high || all.found < fewest.found {
			t.Errorf("rows of kind %d came to no more than %+v", kind, all)
		}
	}
}

// add counts what another row came to.
func (d *did) add(other did) {
	d.soon += other.soon
	d.flat += other.flat
	d.kept += other.kept
	d.high += other.high
	d.found += other.found
}

// P19.1 to P19.3: long rows, of which the kind turns now and then, with resets between, near each other and far.
func TestRowsWithResets(t *testing.T) {
	var s source
	h := heldOf(t, 0)
	for range 300 {
		h.start = s.one(s.whole(), s.upTo(5000))
		for range 1 + s.upTo(4) {
			s.row(t, h, int(s.upTo(kinds)), int(s.upTo(900)))
		}
		h.reset(t)
	}
}

// After very many steps without Reset the answers are still those of the chapter's words.
func TestVeryMany(t *testing.T) {
	var s source
	h := heldOf(t, 123)
	for i := range 100 {
		s.row(t, h, i%2, 5000)
		h.beats = nil
	}
}

// After very many steps of nothing, too; written out.
func TestVeryLong(t *testing.T) {
	const many = 5000000
	h := beating(t, 120, 30)
	for range many {
		if l := h.Push(0, api.Wave{}); len(l) > 0 {
			t.Fatalf("at step %d: %v", h.Steps()-1, l)
		}
	}
	if h.Steps() != 622+many || h.Mean() != 120 {
		t.Fatalf("%d steps, the mean is %d", h.Steps(), h.Mean())
	}
	same(t, h.Push(0, api.Wave{W: 4000}), nil)
	same(t, h.Push(0, api.Wave{}), []api.Beat{at(622+many, 623+many, many+2)})
	if h.Mean() != (many+122)/2 {
		t.Errorf("the mean is %d", h.Mean())
	}
}
