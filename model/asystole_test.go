package model_test

import (
	"slices"
	"testing"

	"systole/api"
	"systole/model"
)

// silences are events of so many even samples from one on.
func silences(at int64, many int) events {
	return shown(at, even(5, many)...)
}

// raisedAt looks at which samples, and at which alone, the asystole is raised.
func raisedAt(t *testing.T, l api.Limits, o orders, e events, want ...int64) {
	t.Helper()
	var got []int64
	for _, o := range model.Run(l, o, e...) {
		if o.Kind == 2 && o.Alarm == 2 {
			got = append(got, o.At)
		}
	}
	alike(t, got, want)
}

// P26.5: without a beat it is raised just Asys behind the first sample, or a gap; once, though nobody acknowledges it.
func TestAsystoleRaised(t *testing.T) {
	for _, n := range []int64{200, 201, 333, 800, 6000} {
		l := asys(n)
		raisedAt(t, l, nil, silences(0, int(n)))
		raisedAt(t, l, nil, silences(0, int(n+1)), n)
		raisedAt(t, l, nil, silences(777, int(3*n)), 777+n)
		raisedAt(t, l, nil, append(events{missing(777)}, silences(777, int(3*n))...), 777+n)
		for _, at := range []int64{1, 5, n - 1, n} {
			e := slices.Concat(silences(0, int(at)), events{missing(at)}, silences(at, int(n)))
			raisedAt(t, l, nil, e)
			raisedAt(t, l, nil, append(e, seen(at+n, 5)), at+n)
		}
		// Behind a gap that ends one it is latched, and so not raised again; but it is, where somebody saw it.
		e := slices.Concat(silences(0, int(n+50)), events{missing(n + 50)}, silences(n+50, int(2*n)))
		raisedAt(t, l, nil, e, n)
		raisedAt(t, l, orders{ack(n)}, e, n, 2*n+50)
		raisedAt(t, l, orders{ack(n + 60)}, e, n, 2*n+50)
		raisedAt(t, l, orders{ack(2*n + 50)}, e, n)
		raisedAt(t, l, orders{ack(n - 1)}, e, n)
	}
}

// P26.5: while the lead is off it is never raised; and behind one that came on so far as behind a gap. A lead that is not off for long enough plays no part.
func TestAsystoleAndLead(t *testing.T) {
	for _, n := range []int64{200, 300, 800} {
		l := asys(n)
		// It is off from 119 on, and on from 2249 on.
		e := slices.Concat(silences(0, 100), hidden(100, 2050), silences(2150, int(n)+99))
		raisedAt(t, l, nil, e)
		raisedAt(t, l, nil, append(e, seen(2249+n, 5)), 2249+n)
		// For fewer than OffRun samples it is as if it were on.
		e = slices.Concat(silences(0, 100), hidden(100, 19), silences(119, 2000))
		raisedAt(t, l, nil, e, n)
		// A gap while it is off lets nothing begin: it does as the lead comes on.
		e = slices.Concat(silences(0, 100), hidden(100, 60), events{missing(160)}, hidden(160, 900), silences(1060, int(n)+100))
		raisedAt(t, l, nil, e, 1159+n)
		// One that stands as the lead goes off is latched; seen, it is raised anew.
		e = slices.Concat(silences(0, int(n)+10), hidden(n+10, 100), silences(n+110, int(n)+100))
		raisedAt(t, l, nil, e, n)
		raisedAt(t, l, orders{ack(n + 100)}, e, n, 2*n+209)
	}
}

// P26.5: beats ahead, between, and behind: it is raised just Asys behind the sample at which the last one was told, and again only where somebody saw it, and no beat came for so long.
func TestAsystoleAndBeats(t *testing.T) {
	for _, n := range []int64{200, 350, 800} {
		l := asys(n)
		v := slices.Concat(pulses(1500, 5000, 4, 150), even(0, int(n)+400), pulses(600, 5000, 4, 150), even(0, int(n)+300))
		e := shown(0, v...)
		told := of(model.Marks(50, e...), 6)
		var want []int64
		if n < 500 {
			// Ahead of the first beat, too, as nothing is told in the learning.
			want = append(want, n)
		}
		for i, m := range told {
			if m.At+n < int64(len(v)) && (i+1 == len(told) || told[i+1].At > m.At+n) {
				want = append(want, m.At+n)
			}
		}
		if len(told) < 8 || len(want) < 2 {
			t.Fatalf("Asys %d: %d beats; %v", n, len(told), want)
		}
		raisedAt(t, l, nil, e, want[0])
		var seen orders
		for _, at := range want {
			seen = append(seen, ack(at))
		}
		raisedAt(t, l, seen, e, want...)
		slices.Reverse(seen)
		raisedAt(t, l, seen, e, want...)
	}
}

// P26.5: with a beat in each Asys samples it is never raised behind the first one.
func TestNoAsystole(t *testing.T) {
	e := shown(0, pulses(9000, 5000, 4, 190)...)
	l := asys(200)
	raisedAt(t, l, orders{ack(250)}, e, 200)
	l.Asys = 700
	raisedAt(t, l, nil, e)
}

// P26.5: samples that leave numbers out: it is raised at the first one that is Asys behind, or more.
func TestAsystoleLeaps(t *testing.T) {
	l := asys(200)
	for _, at := range []int64{300, 301, 777, 1 << 33, maxAt} {
		raisedAt(t, l, nil, append(shown(100, 5, 5), shown(299, 5)...))
		raisedAt(t, l, nil, slices.Concat(shown(100, 5, 5), shown(299, 5), shown(at, 5), shown(at, 5)), at)
	}
	raisedAt(t, l, nil, slices.Concat(shown(-300, 5), shown(-1, 5), shown(199, 5), shown(200, 5)), 200)
}

// P26.5: in long random rows, with orders, mark by mark: it is raised just at samples with the lead on, so far behind the last beat, gap, lead that came on, or beginning, where it did not stand.
func TestAsystoleRows(t *testing.T) {
	x := noise(47)
	raises, ends := 0, 0
	for range 100 {
		l := x.limits()
		e := x.rowOf(4000)
		due := dueOf(x.orders(x.one(0, 5, 60), 0, 5000))
		j := judge(t, l)
		leadOff, stands := false, false
		var since []int64
		for _, m := range model.Marks(l.Mains, e...) {
			at := nearest(m.At, 0, maxAt)
			switch {
			case m.Kind == 2:
				leadOff, since = true, nil
			case m.Kind == 3:
				leadOff = false
				fallthrough
			case m.Kind == 1, m.Kind == 6, m.Kind == 4 && len(since) == 0:
				since = []int64{at}
			}
			should := m.Kind == 4 && !leadOff && at-since[0] >= l.Asys && !stands
			did := false
			for _, o := range j.Push(due, m) {
				if o.Alarm == 2 && o.Kind == 2 {
					did, stands = true, true
					raises++
				}
				if o.Alarm == 2 && o.Kind == 3 {
					stands = false
					ends++
				}
			}
			if did != should || j.Stands(2) != stands {
				t.Fatalf("limits %+v, at %+v, behind %v, the lead off: %v: raised %v, stands %v", l, m, since, leadOff, did, stands)
			}
		}
	}
	if raises < 100 || ends < 50 {
		t.Errorf("%d raises, %d ends", raises, ends)
	}
}
