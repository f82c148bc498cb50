package model_test

import (
	"slices"
	"testing"

	"systole/model"
)

// begins looks that a list is the beginning of another one.
func begins[T comparable](t *testing.T, part, whole []T) {
	t.Helper()
	if len(part) > len(whole) || !slices.Equal(part, whole[:len(part)]) {
		t.Fatalf("%d are no beginning of %d", len(part), len(whole))
	}
}

// P26.4: what is said of each beginning of a long row of events is a beginning of what is said of all, and so are its marks; with orders, too.
func TestCausal(t *testing.T) {
	x := noise(41)
	many := 0
	for range 3 {
		l := x.limits()
		e := append(shown(0, pulses(700, 9000, 4, int(x.from(60, 110)))...), x.rowOf(500)...)
		o := x.orders(30, 0, 1200)
		marked, said := model.Marks(l.Mains, e...), model.Run(l, o, e...)
		var before, ahead int
		for n := range len(e) + 1 {
			part, outs := model.Marks(l.Mains, e[:n]...), model.Run(l, o, e[:n]...)
			begins(t, part, marked)
			begins(t, outs, said)
			if len(part) < before || len(outs) < ahead {
				t.Fatalf("of %d events less is said than of one fewer", n)
			}
			before, ahead = len(part), len(outs)
		}
		if before != len(marked) || ahead != len(said) {
			t.Fatalf("%d marks, %d outs; want %d, %d", before, ahead, len(marked), len(said))
		}
		many += len(said)
	}
	if many < 40 {
		t.Errorf("%d outs in all", many)
	}
}

// P26.4: whatever comes behind, what was said ahead stays: the same beginning with two unlike ends.
func TestCausalEnds(t *testing.T) {
	x := noise(43)
	for range 15 {
		l := x.limits()
		e := x.rowOf(1500)
		o := x.orders(20, 0, 2000)
		want := model.Run(l, o, e...)
		marked := model.Marks(l.Mains, e...)
		for range 4 {
			longer := append(slices.Clip(e), x.rowOf(600)...)
			begins(t, want, model.Run(l, o, longer...))
			begins(t, marked, model.Marks(l.Mains, longer...))
		}
		// What is ordered for later says nothing ahead of it.
		last := e[0].At
		for _, one := range e {
			last = max(last, min(one.At, maxAt))
		}
		if last < maxAt {
			alike(t, model.Run(l, append(slices.Clip(o), ack(max(0, last+1)), silence(maxAt, 5)), e...), want)
		}
	}
}
