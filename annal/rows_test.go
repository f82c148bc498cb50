package annal_test

import (
	"testing"
)

// P25.1, P25.2, P25.3: long rows of random Adds, looks and Clones, held against a list of all; and that there were annals of each kind often enough to say something.
func TestRows(t *testing.T) {
	var x noise
	few, full, past := 0, 0, 0
	for range 150 {
		h := heldNew()
		for range 10 + x.upTo(60) {
			if x.upTo(10) == 0 {
				h = h.clone()
			}
			h.add(t, x.some(x.size()))
			h.asks(t, &x)
			switch {
			case len(h.all) < room:
				few++
			case len(h.all) == room:
				full++
			default:
				past++
			}
		}
	}
	if few < 500 || full < 5 || past < 2000 {
		t.Errorf("few %d, just full %d, more %d", few, full, past)
	}
}

// asks looks at some random places, numbers and kinds.
func (h *held) asks(t *testing.T, x *noise) {
	t.Helper()
	kept := end(h.all)
	each := tally(h.all)
	for range 5 {
		n := int(x.one(x.upTo(70), x.upTo(70), x.whole()))
		o, ok := h.a.At(n)
		if there := n >= 0 && n < len(kept); ok != there || there && o != kept[n] {
			t.Fatalf("At(%d): %+v, %v", n, o, ok)
		}
		var want outs
		if n > 0 {
			want = kept[max(0, len(kept)-n):]
		}
		lasts(t, h.a, n, want)
		kind, many := int(x.one(x.upTo(12), x.whole())), int64(0)
		if kind >= 0 && kind < kinds {
			many = each[kind]
		}
		if got := h.a.Count(kind); got != many {
			t.Fatalf("Count(%d): %d; want %d", kind, got, many)
		}
	}
}

// P25.2: behind each Add of long rows Len and Dropped together are how many were added.
func TestAllTold(t *testing.T) {
	x := noise(17)
	for range 100 {
		h := heldNew()
		var added int64
		for range 100 {
			l := x.some(x.size())
			h.a.Add(l...)
			added += int64(len(l))
			if int64(h.a.Len())+h.a.Dropped() != added || h.a.Len() > 64 {
				t.Fatalf("behind %d: Len %d, Dropped %d", added, h.a.Len(), h.a.Dropped())
			}
		}
	}
}
