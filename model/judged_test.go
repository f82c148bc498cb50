package model_test

import (
	"math"
	"slices"
	"testing"

	"systole/alarm"
	"systole/api"
	"systole/rhythm"
)

// P26.2: each kind of mark as the first one, at any sample: a beat is told with its own place and distance, a lead that goes off raises its alarm, and of others nothing is said.
func TestEachMark(t *testing.T) {
	for _, at := range edges() {
		near := nearest(at, 0, maxAt)
		for kind := 1; kind <= 6; kind++ {
			var want outs
			stands := "....."
			switch kind {
			case 2:
				want, stands = raised(1, near), "b...."
			case 6:
				want = beaten(0, 0)
			}
			j := judge(t, quick())
			says(t, j, want, mark(kind, at))
			is(t, j, stands)
			alike(t, judge(t, quick()).Push(nil, mark(kind, at)), want)
		}
	}
}

// P26.2: an OutBeat has the At and the RR of the mark's Beat, as they are, whatever they are; the mark's own At, and all else of the Beat, play no part in it.
func TestOutBeat(t *testing.T) {
	l := usual()
	l.TachN, l.BradN = 20, 20
	for _, at := range edges() {
		for _, rr := range []int64{0, 1, 100, 101, 300, -1, -100, maxAt + 1, most, least} {
			j := judge(t, l)
			says(t, j, beaten(at, rr), api.Mark{Kind: 6, At: 5000, H: 9000, Beat: api.Beat{At: at, Seen: 7, RR: rr, Back: true}})
			says(t, j, beaten(3, rr), api.Mark{Kind: 6, At: at, Beat: api.Beat{At: 3, RR: rr}})
			is(t, j, ".....")
		}
	}
}

// P26.2: each beat is told, also while the lead is off, and twice the same; nothing is told of it at another mark.
func TestEachBeatIsTold(t *testing.T) {
	j := judge(t, usual())
	says(t, j, and(beaten(5, 120), beaten(5, 120), raised(1, 6), beaten(7, 90), loud(8)), beat(5, 120), beat(5, 120), off(6), beat(7, 90), dark(8))
	is(t, j, "b....")
	for kind := range 6 {
		j := judge(t, usual())
		m := api.Mark{Kind: kind, At: 9, Beat: api.Beat{At: 5, Seen: 9, RR: 150}}
		if l := outsOf(j.Push(nil, m), 1); len(l) > 0 {
			t.Errorf("of kind %d: %v", kind, l)
		}
	}
}

// P26.2: of a beat: first the OutBeat, then what the alarm says of the conditions, by rising kinds; the sound is told at the next sample.
func TestBeatFirst(t *testing.T) {
	l := quick()
	l.TachN, l.BradN = 1, 1
	j := judge(t, l)
	says(t, j, and(raised(2, 200), loud(200)), sample(0, 0), sample(200, 0))
	// The asystole is latched, and the tachycardia begins.
	says(t, j, and(beaten(210, 90), latched(2, 210), raised(4, 210)), beat(210, 90))
	is(t, j, ".s.b.")
	// The one ends, the other begins.
	says(t, j, and(beaten(220, 300), cleared(4, 220), raised(5, 220)), beat(220, 300))
	is(t, j, ".s..b")
	orderly(t, j, and(acked(2, 221), cleared(2, 221), acked(5, 221), still(221)), orders{ack(0)}, sample(221, 0))
	is(t, j, "....b")
	says(t, j, and(raised(2, 420), loud(420)), sample(420, 0))
	says(t, j, and(beaten(430, 90), latched(2, 430), raised(4, 430), cleared(5, 430)), beat(430, 90))
	says(t, j, and(raised(1, 440), cleared(4, 440)), off(440))
	is(t, j, "bs...")
	says(t, j, cleared(1, 450), on(450))
}

// P26.2: several conditions turn at one sample: raised by rising kinds, then the Tick.
func TestSeveralAtOnce(t *testing.T) {
	l := quick()
	l.FibN = 1
	j := judge(t, l)
	says(t, j, and(raised(2, 200), raised(3, 200), loud(200)), sample(0, 0), sample(199, 0), sample(200, 100))
	is(t, j, ".bb..")
	says(t, j, and(raised(1, 201), latched(2, 201), latched(3, 201)), off(201))
	is(t, j, "bss..")
	orderly(t, j, and(acked(1, 202), acked(2, 202), cleared(2, 202), acked(3, 202), cleared(3, 202), still(202)), orders{ack(0)}, dark(202))
	is(t, j, "b....")
	says(t, j, cleared(1, 203), on(203))
}

// P26.2: kinds of marks that are none say nothing, do nothing, and nobody is asked at them, whatever stands.
func TestOtherMarks(t *testing.T) {
	never := func(at int64) []api.Order {
		t.Errorf("it was asked what is due at %d", at)
		return orders{ack(0)}
	}
	for _, kind := range otherKinds() {
		if kind == 6 {
			continue
		}
		for _, row := range []marks{nil, {off(5)}, {sample(0, 0), sample(300, 0)}, {beat(10, 90), beat(100, 90)}, flutter(0, 10)} {
			j := judge(t, quick())
			j.Push(nil, row...)
			was := signs(j)
			for _, at := range edges() {
				alike(t, j.Push(never, api.Mark{Kind: kind, At: at, H: at, Beat: api.Beat{At: at, Seen: at, RR: at, Back: true}}), nil)
			}
			is(t, j, was)
		}
	}
}

// P26.2: to push nothing says nothing, changes nothing, and asks nobody.
func TestNoMark(t *testing.T) {
	never := func(int64) []api.Order {
		t.Error("it was asked")
		return nil
	}
	j := judge(t, quick())
	var got outs
	for _, m := range (marks{sample(0, 0), sample(200, 0), beat(210, 90), beat(300, 90), sample(350, 0), off(360), dark(361)}) {
		alike(t, j.Push(never), nil)
		alike(t, j.Push(never, marks{}...), nil)
		alike(t, j.Push(nil), nil)
		got = append(got, j.Push(nil, m)...)
	}
	alike(t, got, and(raised(2, 200), loud(200), beaten(210, 90), latched(2, 210), beaten(300, 90), raised(4, 300), escaped(4, 350), raised(1, 360), latched(4, 360)))
}

// P26.2: it is asked what is due at each sample, and each dark one, once, with its own At, in order; and at nothing else.
func TestAsked(t *testing.T) {
	x := noise(3)
	var row marks
	var want []int64
	for _, at := range edges() {
		for kind := -1; kind <= 8; kind++ {
			row = append(row, api.Mark{Kind: kind, At: at, H: x.whole(), Beat: api.Beat{At: x.whole(), RR: x.upTo(300)}})
			if kind == 4 || kind == 5 {
				want = append(want, at)
			}
		}
	}
	for _, size := range []int{1, 2, 7, len(row)} {
		var got []int64
		due := func(at int64) []api.Order {
			got = append(got, at)
			return nil
		}
		j := judge(t, quick())
		for part := range slices.Chunk(row, size) {
			j.Push(due, part...)
		}
		alike(t, got, want)
	}
}

// P26.2: as it is asked, the conditions of that sample have turned already, and nothing is acknowledged yet.
func TestAskedBehindConditions(t *testing.T) {
	l := quick()
	j := judge(t, l)
	var seen []string
	due := func(at int64) []api.Order {
		seen = append(seen, signs(j))
		return orders{ack(at)}
	}
	alike(t, j.Push(due, sample(0, 0), sample(199, 0), sample(200, 0), beat(201, 0), off(202), dark(202), dark(203), on(204), sample(204, 0)),
		and(raised(2, 200), acked(2, 200), beaten(201, 0), cleared(2, 201), raised(1, 202), acked(1, 202), cleared(1, 204)))
	alike(t, seen, []string{".....", ".....", ".b...", "b....", "b....", "....."})
}

// P26.2: where due is nil, or says nil, or an empty list, nothing is due: all of them come to the same.
func TestNothingDue(t *testing.T) {
	x := noise(19)
	for range 30 {
		l := x.limits()
		row := x.marks(l, 400)
		want := judge(t, l).Push(nil, row...)
		alike(t, judge(t, l).Push(none, row...), want)
		alike(t, judge(t, l).Push(all(orders{}...), row...), want)
		alike(t, judge(t, l).Push(all(make(orders, 0, 9)...), row...), want)
		if n := len(outsOf(want, 5, 8)); n > 0 {
			t.Fatalf("%d were acknowledged, or silenced", n)
		}
	}
}

// P26.2: where somebody who is asked panics, nothing is due there, and all goes on.
func TestAskedPanics(t *testing.T) {
	due := func(at int64) []api.Order {
		if at%2 == 1 {
			panic("nobody knows")
		}
		return orders{ack(at)}
	}
	j := judge(t, quick())
	alike(t, j.Push(due, off(1), dark(1), dark(2), dark(3), on(3), off(5), dark(5)), and(raised(1, 1), loud(1), acked(1, 2), still(2), cleared(1, 3), raised(1, 5), loud(5)))
	is(t, j, "b....")
	alike(t, j.Push(func(int64) []api.Order { return []api.Order{{}, {}}[:math.MaxInt] }, dark(7)), nil)
	alike(t, j.Push(due, dark(8)), and(acked(1, 8), still(8)))
}

// P26.2: what is said of each mark is what an alarm says of what a rhythm says of it, and of the Tick: with parts of their own, and all kinds of orders.
func TestPartsOfJudge(t *testing.T) {
	x := noise(23)
	for range 60 {
		l := x.limits()
		r, _ := rhythm.New(l)
		a, _ := alarm.New(l.Escape)
		j := judge(t, l)
		for _, m := range x.marks(l, 500) {
			due := x.orders(x.one(0, 0, 0, 0, 1, 2), m.At-2, m.At+2)
			var want outs
			if m.Kind == api.MkBeat {
				want = append(want, api.Out{Kind: api.OutBeat, At: m.Beat.At, N: m.Beat.RR})
			}
			want = append(want, a.Conds(r.Push(m)...)...)
			if m.Kind == api.MkSample || m.Kind == api.MkDark {
				want = append(want, a.Tick(m.At, due...)...)
			}
			orderly(t, j, want, due, m)
			for kind := -1; kind <= 7; kind++ {
				if j.On(kind) != r.On(kind) || j.Stands(kind) != a.Stands(kind) {
					t.Fatalf("at %+v: On(%d): %v, Stands: %v", m, kind, j.On(kind), j.Stands(kind))
				}
			}
		}
	}
}

// P26.2: the same marks come to the same, however they are cut into calls.
func TestMarksCut(t *testing.T) {
	x := noise(29)
	for range 6 {
		l := x.limits()
		row := x.marks(l, 300)
		due := x.orders(30, 0, row[len(row)-1].At)
		whole := judge(t, l).Push(dueOf(due), row...)
		for cut := range len(row) + 1 {
			j, d := judge(t, l), dueOf(due)
			got := j.Push(d, row[:cut]...)
			alike(t, append(got, j.Push(d, row[cut:]...)...), whole)
		}
		for _, size := range []int{1, 2, 3, 50} {
			j, d := judge(t, l), dueOf(due)
			var got outs
			for part := range slices.Chunk(row, size) {
				got = append(got, j.Push(d, part...)...)
			}
			alike(t, got, whole)
		}
	}
}
