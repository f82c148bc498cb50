package model_test

import (
	"testing"

	"systole/api"
)

// beginnings are rows of items by which a detector begins anew, at sample 0.
func beginnings() []items {
	return []items{
		{item(1, 0)},
		{item(2, 0)},
		{item(3, 0)},
		{item(2, 0), item(5, 0), item(5, 1), item(3, 0)},
		{item(1, 0), item(1, 0)},
		{item(2, 0), item(1, 0), item(3, 0)},
		{item(2, 0), item(5, 0), item(1, 1), item(5, 1), item(3, 0)},
		{item(1, most), item(1, least)},
	}
}

// marksOnly are the marks of such items, which have no sample among them.
func marksOnly(l items) marks {
	var told marks
	for _, it := range l {
		told = append(told, mark(it.Kind, it.At))
	}
	return told
}

// P26.1: at a gap, and as the lead goes off, or comes on, all begins anew: what comes behind it comes to what a new detector says of it, wherever in a train it is.
func TestAnew(t *testing.T) {
	train := numbered(0, pulses(1500, 3000, 3, 100)...)
	next := numbered(90000, pulses(1100, 8000, 5, 130)...)
	want := detector(t, 50).Push(next...)
	if len(of(want, 6)) == 0 {
		t.Fatal("no beat")
	}
	for _, begin := range beginnings() {
		for _, many := range []int{0, 1, 2, 40, 78, 350, 399, 400, 401, 444, 452, 460, 500, 650, 704, 999, 1111, 1500} {
			d := detector(t, 50)
			d.Push(train[:many]...)
			tells(t, d, marksOnly(begin), begin...)
			tells(t, d, want, next...)
		}
	}
}

// P26.1: a beat that was learnt before is unlearnt: none is told for the learning, and the first one behind it has no distance.
func TestUnlearnt(t *testing.T) {
	train := pulses(4000, 3000, 3, 100)
	for _, begin := range beginnings() {
		for _, at := range []int{1000, 1010, 1050, 1056, 1090} {
			d := detector(t, 50)
			before := d.Push(numbered(0, train[:at]...)...)
			if len(of(before, 6)) < 5 {
				t.Fatalf("%d beats ahead", len(of(before, 6)))
			}
			d.Push(begin...)
			l := d.Push(numbered(int64(at), train[at:]...)...)
			for _, m := range l[:learn] {
				if m.Kind != api.MkSample {
					t.Fatalf("at %d: %+v", at, m)
				}
			}
			told := of(l, 6)
			if len(told) < 20 || told[0].Beat.RR != 0 || told[0].At > int64(at)+learn+110 {
				t.Fatalf("behind %d: %d beats, %+v", at, len(told), told[:min(1, len(told))])
			}
			for _, m := range told[1:] {
				if m.Beat.RR != 100 {
					t.Fatalf("behind %d: %+v", at, m)
				}
			}
		}
	}
}

// P26.1: what was learnt of high pulses plays no part: behind a beginning low ones are learnt from, and told.
func TestLowBehindHigh(t *testing.T) {
	low := numbered(0, pulses(1300, 1000, 3, 100)...)
	d := detector(t, 50)
	d.Push(numbered(0, pulses(1300, 30000, 6, 100)...)...)
	if l := of(d.Push(low...), 6); len(l) > 2 {
		t.Fatalf("%d beats of low ones without a beginning", len(l))
	}
	for _, begin := range beginnings() {
		d := detector(t, 50)
		d.Push(numbered(0, pulses(1300, 30000, 6, 100)...)...)
		d.Push(begin...)
		if l := of(d.Push(low...), 6); len(l) < 9 {
			t.Fatalf("%d beats of low ones", len(l))
		}
	}
}

// P26.1: a wave of before plays no part: the first sample behind a beginning is the base, and of those that stay there nothing is left, whatever came ahead.
func TestWaveOfBefore(t *testing.T) {
	for _, mains := range []int{0, 50, 60} {
		for _, begin := range beginnings() {
			for _, v := range []int32{0, 1000, -7, 32767, -32768} {
				d := detector(t, mains)
				d.Push(numbered(0, pulses(467, 30000, 6, 50)...)...)
				d.Push(begin...)
				tells(t, d, stays(100, 600, 0), numbered(100, even(v, 600)...)...)
			}
		}
		// Without a beginning there is much left.
		d := detector(t, mains)
		d.Push(numbered(0, pulses(467, 30000, 6, 50)...)...)
		if l := d.Push(numbered(100, even(1000, 20)...)...); l[3].H == 0 || l[19].H == 0 {
			t.Errorf("the waves are %v", l)
		}
	}
}

// P26.1: the start behind a beginning is that of the first sample there: a beat's place goes by it.
func TestStartAnew(t *testing.T) {
	train := pulses(700, 3000, 3, 100)
	first := of(detector(t, 50).Push(numbered(0, train...)...), 6)
	for _, begin := range beginnings() {
		for _, at := range []int64{0, 1, 5000, maxAt - 200, maxAt, most - 700, -300, least} {
			start := nearest(at, 0, maxAt)
			d := detector(t, 50)
			d.Push(numbered(77, train...)...)
			d.Push(begin...)
			told := of(d.Push(numbered(at, train...)...), 6)
			var want marks
			for _, m := range first {
				b := m.Beat
				b.At, b.Seen = start+b.At, start+b.Seen
				want = append(want, api.Mark{Kind: 6, At: at + m.At, Beat: b})
			}
			alike(t, told, want)
		}
	}
}
