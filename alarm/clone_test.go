package alarm_test

import (
	"slices"
	"testing"

	"systole/alarm"
	"systole/api"
)

// P23.3: a clone in each state answers the same as the alarm that it was made of, and from then on neither knows of what comes to the other.
func TestCloneEachState(t *testing.T) {
	for kind := 1; kind <= 5; kind++ {
		for _, w := range ways(kind) {
			a := w.alarm(kind)
			b, c := a.Clone(), a.Clone()
			if b == a || c == a || b == c {
				t.Fatal("a clone is not another one")
			}
			is(t, b, only(kind, w.sign))
			if b.Sounds() != a.Sounds() {
				t.Fatalf("Sounds: %v", b.Sounds())
			}
			says(t, b, outs(w.begin, kind, 2000), begins(kind, 2000))
			is(t, b, only(kind, w.begun))
			is(t, a, only(kind, w.sign))
			says(t, a, outs(w.end, kind, 2001), ends(kind, 2001))
			is(t, a, only(kind, w.ended))
			is(t, b, only(kind, w.begun))
			is(t, c, only(kind, w.sign))
			says(t, c, outs(w.begin, kind, 2002), begins(kind, 2002))
			is(t, c, only(kind, w.begun))
		}
	}
}

// P23.3: a clone has the escape, the silence, the sample since which an alarm stands, and what sounded at the last Tick.
func TestCloneHasAll(t *testing.T) {
	a := of(t, 300)
	says(t, a, raised(5, 10), begins(5, 10))
	ticks(t, a, loud(10), 10)
	b := a.Clone()
	ticks(t, a, and(silent(20, 100), still(20)), 20, silence(100))
	c := a.Clone()
	for _, x := range []*alarm.Alarm{a, c} {
		if x.Sounds() || !b.Sounds() {
			t.Fatalf("Sounds: %v, %v", x.Sounds(), b.Sounds())
		}
		ticks(t, x, nil, 119)
		ticks(t, x, loud(120), 120)
		ticks(t, x, nil, 309)
		ticks(t, x, escaped(5, 310), 310)
	}
	ticks(t, b, nil, 21)
	ticks(t, b, nil, 309)
	is(t, b, "....s")
	ticks(t, b, escaped(5, 310), 310)
}

// P23.3: of a clone of a new one nothing stands; and a clone's clone is as good.
func TestCloneOfClone(t *testing.T) {
	a := of(t, 100).Clone().Clone()
	is(t, a, ".....")
	says(t, a, raised(4, 0), begins(4, 0))
	b := a.Clone().Clone()
	is(t, b, "...s.")
	ticks(t, b, and(escaped(4, 100), loud(100)), 100)
	is(t, a, "...s.")
}

// P23.3: in the midst of long rows a clone goes its own way, held against words of its own, and so does what it was made of.
func TestCloneRows(t *testing.T) {
	x := noise(7)
	for range 20 {
		escape := x.escape()
		one := heldOf(t, escape)
		for _, d := range x.rowOf(escape, 60) {
			one.does(t, d)
			two := one.clone()
			two.look(t)
			for _, e := range x.rowOf(escape, 10) {
				two.does(t, e)
				one.look(t)
			}
			if x.upTo(2) == 0 {
				one, two = two, one
				two.look(t)
			}
		}
	}
}

// P23.1: two alarms of unlike escapes, and two of the same, side by side, know nothing of each other.
func TestTwo(t *testing.T) {
	x := noise(11)
	for range 25 {
		one := heldOf(t, x.escape())
		two := heldOf(t, x.escape())
		three := heldOf(t, two.escape)
		first, second := x.rowOf(one.escape, 200), x.rowOf(two.escape, 200)
		for i := range first {
			one.does(t, first[i])
			two.does(t, second[i])
			if i%2 == 0 {
				three.does(t, first[i])
			}
			one.look(t)
		}
	}
	slow, quick := of(t, 200), of(t, 100)
	for _, a := range []*alarm.Alarm{slow, quick} {
		says(t, a, raised(1, 0), begins(1, 0))
	}
	ticks(t, quick, and(escaped(1, 100), loud(100)), 100)
	ticks(t, slow, loud(100), 100)
	is(t, slow, "s....")
	ticks(t, slow, escaped(1, 200), 200)
	idle := of(t, 100)
	is(t, idle, ".....")
	ticks(t, idle, nil, 900, ack())
}

// P23.3: asking, cloning, and conditions of none change nothing.
func TestAskingDoesNothing(t *testing.T) {
	x := noise(13)
	for range 20 {
		escape := x.escape()
		asked, left := of(t, escape), of(t, escape)
		for _, d := range x.rowOf(escape, 300) {
			for kind := -2; kind < 9; kind++ {
				asked.Stands(kind)
				asked.High(kind)
				asked.Acked(kind)
			}
			asked.Sounds()
			asked.Clone().Tick(most, ack())
			asked.Conds()
			asked.Conds([]api.Cond{}...)
			if got, want := d.of(asked), d.of(left); !slices.Equal(got, want) {
				t.Fatalf("%+v: %v; want %v", d, got, want)
			}
		}
	}
}
