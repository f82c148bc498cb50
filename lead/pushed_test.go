package lead_test

import (
	"math"
	"slices"
	"testing"

	"systole/api"
	"systole/lead"
)

// The chapter's example.
func TestExample(t *testing.T) {
	var events []api.Event
	var want []api.Item
	for at := range int64(20) {
		events = append(events, api.Event{Kind: api.EvSample, At: at, Sample: api.Sample{V: 9, Off: true}})
		if at < 19 {
			want = append(want, api.Item{Kind: api.ItSample, At: at, V: 9})
		}
	}
	want = append(want, api.Item{Kind: api.ItOff, At: 19}, api.Item{Kind: api.ItDark, At: 19})
	answers(t, lead.New(), events, want...)
	if got := lead.Items(events...); !slices.Equal(got, want) {
		t.Errorf("Items: %v; want %v", got, want)
	}
}

// P9.1, P9.2: a new lead is on, whatever others are.
func TestNew(t *testing.T) {
	x := lead.New()
	if !x.On() {
		t.Error("a new lead is off")
	}
	x.Push(came(-25)...)
	other := lead.New()
	if x.On() || !other.On() {
		t.Errorf("On of one that went off, and of a new one: %v, %v", x.On(), other.On())
	}
	rowOf(came(-19, 1)).goesOn(t, other, 0, 20)
}

// P9.2: each call of a lead that no call made, that is nil: nothing is done, and it stays so.
func TestNil(t *testing.T) {
	var x *lead.Lead
	for range 2 {
		for _, l := range [][]api.Event{nil, came(0), came(1), came(-30), came(5, -25, 0, 130)} {
			if got := x.Push(l...); got != nil {
				t.Errorf("Push of %d events, of nil: %v", len(l), got)
			}
			if x.On() {
				t.Error("On of nil: true")
			}
		}
		if c := x.Clone(); c != nil {
			t.Errorf("Clone of nil: %v", c)
		}
		if x != nil {
			t.Error("it is not nil any more")
		}
	}
}

// P9.1: no event says nothing, and ends no run, wherever it comes.
func TestNoEvent(t *testing.T) {
	x := lead.New()
	r := rowOf(came(1, -20, 100, 1, 0))
	for i := range r.l {
		for range 2 {
			answers(t, x, nil)
			answers(t, x, []api.Event{})
		}
		r.goesOn(t, x, i, i+1)
	}
	if l := lead.Items(); len(l) != 0 {
		t.Errorf("Items of no event: %v", l)
	}
	if l := lead.Items([]api.Event{}...); len(l) != 0 {
		t.Errorf("Items of an empty list: %v", l)
	}
}

// P9.1: by which sample a lead goes off, and comes on, in rows of all kinds: written out.
func TestTurns(t *testing.T) {
	off := func(at int64) api.Item { return api.Item{Kind: 2, At: at} }
	on := func(at int64) api.Item { return api.Item{Kind: 3, At: at} }
	for _, c := range []struct {
		l    []int
		want []api.Item
	}{
		{[]int{500}, nil},
		{[]int{-19}, nil},
		{[]int{-20}, []api.Item{off(19)}},
		{[]int{-21}, []api.Item{off(19)}},
		{[]int{-500}, []api.Item{off(19)}},
		// Behind one without, and behind a gap.
		{[]int{1, -19}, nil},
		{[]int{1, -20}, []api.Item{off(20)}},
		{[]int{1, -21}, []api.Item{off(20)}},
		{[]int{0, -19}, nil},
		{[]int{0, -20}, []api.Item{off(19)}},
		{[]int{0, -21}, []api.Item{off(19)}},
		{[]int{7, 0, -19}, nil},
		{[]int{7, 0, -20}, []api.Item{off(26)}},
		{[]int{150, -20}, []api.Item{off(169)}},
		// A run that ends just ahead of its 20th sample.
		{[]int{-19, 0, -1}, nil},
		{[]int{-19, 0, -19}, nil},
		{[]int{-19, 0, -20}, []api.Item{off(38)}},
		{[]int{-19, 0, 0, -21}, []api.Item{off(38)}},
		{[]int{-19, 1, -1}, nil},
		{[]int{-19, 1, -19}, nil},
		{[]int{-19, 1, -20}, []api.Item{off(39)}},
		{[]int{-19, 0, 1, 0, -19, 1, -19, 0, -19}, nil},
		{[]int{-10, 0, -10, 0, -10, 1, -10, 1, -10}, nil},
		// While it is off.
		{[]int{-20, 99}, []api.Item{off(19)}},
		{[]int{-20, 100}, []api.Item{off(19), on(119)}},
		{[]int{-20, 101}, []api.Item{off(19), on(119)}},
		{[]int{-33, 100}, []api.Item{off(19), on(132)}},
		{[]int{-20, 0, 99}, []api.Item{off(19)}},
		{[]int{-20, 0, 100}, []api.Item{off(19), on(119)}},
		{[]int{-20, 0, 0, 101}, []api.Item{off(19), on(119)}},
		{[]int{-20, 0, 500}, []api.Item{off(19), on(119)}},
		// A run that ends just ahead of its 100th sample.
		{[]int{-20, 99, 0, 1}, []api.Item{off(19)}},
		{[]int{-20, 99, 0, 99}, []api.Item{off(19)}},
		{[]int{-20, 99, 0, 100}, []api.Item{off(19), on(218)}},
		{[]int{-20, 99, -1, 1}, []api.Item{off(19)}},
		{[]int{-20, 99, -1, 99}, []api.Item{off(19)}},
		{[]int{-20, 99, -1, 100}, []api.Item{off(19), on(219)}},
		{[]int{-20, 99, -25, 99, 0, -25, 0, 99, -1, 0, 99}, []api.Item{off(19)}},
		{[]int{-20, 50, 0, 50, 0, 50, -1, 50, -1, 50}, []api.Item{off(19)}},
		// It was without for long ahead: that is another run.
		{[]int{200, -20, 99, -1, 50}, []api.Item{off(219)}},
		// There and back.
		{[]int{-20, 100, -19}, []api.Item{off(19), on(119)}},
		{[]int{-20, 100, -20}, []api.Item{off(19), on(119), off(139)}},
		{[]int{-20, 100, 0, -19, 1, -20, 0, 99, 0, 100}, []api.Item{off(19), on(119), off(159), on(358)}},
		{[]int{-20, 100, -20, 100}, []api.Item{off(19), on(119), off(139), on(239)}},
	} {
		l := came(c.l...)
		if got := turned(lead.Items(l...)); !slices.Equal(got, c.want) {
			t.Errorf("%v: %v; want %v", c.l, got, c.want)
		}
		rowOf(l).holds(t)
	}
}

// P9.1: each row of all kinds, at once, event by event, and cut at each place: each item as it should be.
func TestRows(t *testing.T) {
	for _, l := range rows() {
		r := rowOf(l)
		r.holds(t)
		for n := range l {
			r.isPushed(t, n, n)
		}
	}
}

// P9.1: where the lead turns, the sample is told behind that, as the lead stands then.
func TestSampleBehindTurn(t *testing.T) {
	x := lead.New()
	r := rowOf(came(-19))
	r.goesOn(t, x, 0, 19)
	answers(t, x, []api.Event{sample(40, true)}, api.Item{Kind: 2, At: 40}, api.Item{Kind: 5, At: 40})
	answers(t, x, []api.Event{gap(41)}, api.Item{Kind: 1, At: 41})
	for at := range int64(99) {
		answers(t, x, []api.Event{sample(41+at, false)}, api.Item{Kind: 5, At: 41 + at})
	}
	answers(t, x, []api.Event{sample(140, false)}, api.Item{Kind: 3, At: 140}, api.Item{Kind: 4, At: 140, V: 141})
	answers(t, x, []api.Event{sample(141, true)}, api.Item{Kind: 4, At: 141, V: -142})
}

// P9.1: events of other kinds say nothing, and neither end a run nor are of one, whatever else they say.
func TestOtherKinds(t *testing.T) {
	full := []api.Sample{{}, {V: 5}, {Off: true}, {V: math.MinInt32, Off: true}}
	for _, kind := range strange() {
		x := lead.New()
		other := func() {
			t.Helper()
			for i, s := range full {
				answers(t, x, []api.Event{{Kind: kind, At: int64(i) - 1, Sample: s}})
			}
		}
		r := rowOf(came(1, -19, 0, -20, 99, 0, 100, 1, 0))
		for i := range r.l {
			other()
			r.goesOn(t, x, i, i+1)
		}
		other()
	}
}

// P9.1: in one piece with others, too, events of other kinds say nothing, and a run goes on behind them.
func TestOtherKindsBetween(t *testing.T) {
	for _, kind := range strange() {
		var l []api.Event
		for _, e := range came(-20, 100) {
			l = append(l, e, api.Event{Kind: kind, At: e.At, Sample: api.Sample{V: 1, Off: !e.Off}})
		}
		if got, want := lead.Items(l...), lead.Items(came(-20, 100)...); !slices.Equal(got, want) {
			t.Errorf("kind %d: at last %v; want %v", kind, few(got), few(want))
		}
	}
}

// P9.1: the At of each kind of item is the event's, and the V of an ItSample alone, to the ends of their ranges; whatever else a gap says is in no item.
func TestAtAndV(t *testing.T) {
	for _, at := range []int64{0, 1, -1, 7, math.MaxInt32, math.MinInt32, math.MaxUint32, 1 << 32, 1 << 40, math.MaxInt64, math.MinInt64, math.MaxInt64 - 1, math.MinInt64 + 1} {
		for _, v := range []int32{0, 1, -1, api.Low, api.High, api.High + 1, math.MaxInt32, math.MinInt32} {
			off := api.Event{Kind: 2, At: at, Sample: api.Sample{V: v, Off: true}}
			on := api.Event{Kind: 2, At: at, Sample: api.Sample{V: v}}
			x := lead.New()
			lone := api.Event{Kind: 1, At: at, Sample: api.Sample{V: v, Off: v > 0}}
			answers(t, x, []api.Event{lone}, api.Item{Kind: 1, At: at})
			for range 19 {
				answers(t, x, []api.Event{off}, api.Item{Kind: 4, At: at, V: v})
			}
			answers(t, x, []api.Event{off}, api.Item{Kind: 2, At: at}, api.Item{Kind: 5, At: at})
			answers(t, x, []api.Event{off}, api.Item{Kind: 5, At: at})
			answers(t, x, []api.Event{lone}, api.Item{Kind: 1, At: at})
			for range 99 {
				answers(t, x, []api.Event{on}, api.Item{Kind: 5, At: at})
			}
			answers(t, x, []api.Event{on}, api.Item{Kind: 3, At: at}, api.Item{Kind: 4, At: at, V: v})
			answers(t, x, []api.Event{on}, api.Item{Kind: 4, At: at, V: v})
		}
	}
}

// P9.1: nothing hangs on the numbers of events: a run is of samples as they come.
func TestNumbersDoNotCount(t *testing.T) {
	l := came(-19, 1, -20, 99, -1, 100, 5)
	for i := range l {
		l[i].At = int64(len(l)-i) * 1000
	}
	rowOf(l).holds(t)
	for i := range l {
		l[i].At = 3
	}
	rowOf(l).holds(t)
}

// P9.1: a gap leaves the lead as it is.
func TestGapAlone(t *testing.T) {
	x := lead.New()
	for range 300 {
		answers(t, x, []api.Event{gap(5)}, api.Item{Kind: 1, At: 5})
		if !x.On() {
			t.Fatal("gaps turned it off")
		}
	}
	rowOf(came(-20)).goesOn(t, x, 0, 20)
	for range 300 {
		answers(t, x, []api.Event{gap(25)}, api.Item{Kind: 1, At: 25})
		if x.On() {
			t.Fatal("gaps turned it on")
		}
	}
}
