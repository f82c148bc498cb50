package annal_test

import (
	"slices"
	"testing"

	"systole/annal"
)

// held is an annal beside all that was added to it.
type held struct {
	a   *annal.Annal
	all outs
}

// heldNew is a new annal, held.
func heldNew() *held {
	return &held{a: annal.New()}
}

// add adds outs, and looks at how the annal stands.
func (h *held) add(t *testing.T, l outs) {
	t.Helper()
	h.a.Add(l...)
	h.all = append(h.all, l...)
	h.look(t)
}

// look looks at how the annal stands.
func (h *held) look(t *testing.T) {
	t.Helper()
	is(t, h.a, h.all)
	lasts(t, h.a, room, end(h.all))
}

// clone is a clone of the annal, with a list of its own.
func (h *held) clone() *held {
	return &held{a: h.a.Clone(), all: slices.Clone(h.all)}
}

// alike looks at two annals that are to answer the same.
func alike(t *testing.T, a, b *annal.Annal) {
	t.Helper()
	if a.Len() != b.Len() || a.Dropped() != b.Dropped() {
		t.Fatalf("Len %d, Dropped %d; want %d, %d", a.Len(), a.Dropped(), b.Len(), b.Dropped())
	}
	lasts(t, a, most, b.Last(most))
	for i := range b.Len() {
		want, _ := b.At(i)
		if o, ok := a.At(i); o != want || !ok {
			t.Fatalf("At(%d): %+v, %v; want %+v", i, o, ok, want)
		}
	}
	for kind := range kinds {
		if a.Count(kind) != b.Count(kind) {
			t.Fatalf("Count(%d): %d; want %d", kind, a.Count(kind), b.Count(kind))
		}
	}
}
