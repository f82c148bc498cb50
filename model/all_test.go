package model_test

import (
	"slices"
	"testing"

	"systole/api"
	"systole/lead"
	"systole/model"
)

// P26.3: Marks of events, written out: samples, a gap, a lead that goes off, and one that comes on; of events of other kinds nothing.
func TestMarksWrittenOut(t *testing.T) {
	e := slices.Concat(shown(0, 5, 5), events{missing(2), {}, {Kind: 3, At: 9}}, hidden(2, 21), events{missing(23)}, shown(23, even(9, 101)...))
	var want marks
	want = append(want, sample(0, 0), sample(1, 0), gap(2))
	want = append(want, stays(2, 19, 0)...)
	want = append(want, off(21), dark(21), dark(22), gap(23))
	for at := range int64(99) {
		want = append(want, dark(23+at))
	}
	want = append(want, on(122), sample(122, 0), sample(123, 0))
	// The first sample is 5, those with the lead off, till it is so, are 7: behind the gap they are the base.
	for _, mains := range []int{0, 50, 60} {
		alike(t, model.Marks(mains, e...), want)
	}
}

// P26.3: Run of events, written out: the lead goes off, its alarm sounds and escalates, it comes on, and nobody has seen it.
func TestRunWrittenOut(t *testing.T) {
	l := asys(300)
	l.Escape = 60
	e := slices.Concat(shown(0, even(9, 100)...), hidden(100, 50), shown(150, even(9, 500)...))
	alike(t, model.Run(l, nil, e...), and(raised(1, 119), loud(119), escaped(1, 179), latched(1, 249), raised(2, 549)))
	alike(t, model.Run(l, orders{ack(200)}, e...), and(raised(1, 119), loud(119), escaped(1, 179), acked(1, 200), still(200), cleared(1, 249), raised(2, 549), loud(549)))
	alike(t, model.Run(l, orders{ack(600), silence(130, 20), ack(178)}, e...), and(raised(1, 119), loud(119), silent(130, 20), still(130), loud(150), acked(1, 178), still(178), cleared(1, 249), raised(2, 549), loud(549), acked(2, 600), still(600)))
}

// P26.3: Run of fast pulses and slow ones, written out but for the places of beats: each beat is an OutBeat, the first one with 0, and behind the last one of TachN, or BradN, there is a raise.
func TestRunBeats(t *testing.T) {
	for _, c := range []struct {
		each, many, last int
		kind             int
	}{{70, 1500, 5, 4}, {100, 1600, 5, 4}, {101, 1700, 0, 0}, {200, 2500, 0, 0}, {239, 2600, 0, 0}, {240, 2700, 3, 5}, {300, 3000, 3, 5}} {
		got := model.Run(usual(), nil, shown(0, pulses(c.many, 5000, 4, c.each)...)...)
		beats := 0
		for i, o := range got {
			switch {
			case o.Kind == 1:
				want := int64(0)
				if beats > 0 {
					want = int64(c.each)
				}
				if o.N != want || o.Alarm != 0 {
					t.Fatalf("each %d: %+v", c.each, o)
				}
				beats++
			case o.Kind == 2:
				if o.Alarm != c.kind || beats != c.last+1 || got[i-1].Kind != 1 {
					t.Fatalf("each %d, behind %d beats: %+v", c.each, beats, o)
				}
			case o != (api.Out{Kind: 7, At: got[i-1].At, N: 1}) || got[i-1].Kind != 2:
				t.Fatalf("each %d, behind %d beats: %+v", c.each, beats, o)
			}
		}
		if raises := len(outsOf(got, 2)); beats < (c.many-learn)/c.each-1 || (raises == 1) != (c.kind > 0) || raises > 1 {
			t.Fatalf("each %d: %d beats, %d raises", c.each, beats, raises)
		}
	}
}

// P26.3: a wave that swings is a fibrillation, and an asystole, as no beat is in it.
func TestRunFlutter(t *testing.T) {
	l := usual()
	got := model.Run(l, nil, append(shown(0, even(0, 700)...), shown(700, swings(900, 2000, 24)...)...)...)
	raises := outsOf(got, 2)
	if len(raises) != 2 || raises[0].Alarm != 3 && raises[0].Alarm != 2 || raises[0].Alarm+raises[1].Alarm != 5 {
		t.Fatalf("%v", got)
	}
	for _, o := range raises {
		if o.Alarm == 3 && (o.At < 700+11*24 || o.At > 700+14*24) {
			t.Errorf("%+v", o)
		}
	}
}

// P26.3: Marks is what a detector of its own says of Items, with each of the mains; nothing of no event.
func TestMarks(t *testing.T) {
	x := noise(31)
	for range 12 {
		e := x.rowOf(3000)
		for _, mains := range []int{0, 50, 60} {
			alike(t, model.Marks(mains, e...), detector(t, mains).Push(lead.Items(e...)...))
			alike(t, model.Marks(mains, e[:1]...), detector(t, mains).Push(lead.Items(e[0])...))
			alike(t, model.Marks(mains), nil)
			alike(t, model.Marks(mains, events{}...), nil)
		}
	}
}

// P26.3: Marks goes by the mains: with each of them another wave is left of a train; and Run by those of the limits.
func TestMains(t *testing.T) {
	e := shown(0, pulses(1500, 5000, 4, 90)...)
	for _, m := range [][2]int{{0, 50}, {0, 60}, {50, 60}} {
		if slices.Equal(model.Marks(m[0], e...), model.Marks(m[1], e...)) {
			t.Errorf("mains %d and %d come to the same", m[0], m[1])
		}
	}
	for _, mains := range []int{0, 50, 60} {
		for _, height := range []int64{1, 40, 100, 300, 1000} {
			l := usual()
			l.Mains, l.Fib, l.FibN = mains, height, 6
			alike(t, model.Run(l, nil, e...), saidOf(l, nil, e))
		}
	}
	// A hum of 50 in a second, of which only a notch for that leaves too little.
	var hum []int32
	for i := range 900 {
		hum = append(hum, []int32{0, 4000, 0, -4000}[i%4])
	}
	for _, mains := range []int{0, 50, 60} {
		l := usual()
		l.Mains, l.Fib = mains, 20
		if is := len(outsOf(model.Run(l, nil, shown(0, hum...)...), 2)) == 2; is != (mains != 50) {
			t.Errorf("mains %d: %v", mains, model.Run(l, nil, shown(0, hum...)...))
		}
	}
}

// P26.3: Run is what a judge of its own says of Marks, whose due is reckoned by the chapter's words: with no order, with one, and with many, in any order.
func TestRun(t *testing.T) {
	x := noise(37)
	for range 40 {
		l := x.limits()
		e := x.rowOf(2500)
		from, to := e[0].At, e[len(e)-1].At
		said := model.Marks(l.Mains, e...)
		for _, many := range []int64{0, 1, 5, 60} {
			o := x.orders(many, min(from, to), max(from, to))
			alike(t, model.Run(l, o, e...), judge(t, l).Push(dueOf(o), said...))
		}
		alike(t, model.Run(l, nil, e...), judge(t, l).Push(nil, said...))
		alike(t, model.Run(l, orders{}, e...), judge(t, l).Push(none, said...))
		alike(t, model.Run(l, x.orders(9, 0, 100)), nil)
	}
}
