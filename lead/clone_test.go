package lead_test

import (
	"slices"
	"testing"

	"systole/api"
	"systole/lead"
)

// P9.2: behind Clone both stand alike, wherever it was made, and each goes its own way; whatever comes to the one, the other one goes on as if there were none.
func TestClone(t *testing.T) {
	for _, l := range rows() {
		r := rowOf(l)
		x := lead.New()
		for n := range len(l) + 1 {
			c := x.Clone()
			if c == x || c.On() != x.On() {
				t.Fatalf("Clone behind %d events: it is the same one, or stands unlike", n)
			}
			for _, other := range [][]api.Event{came(-30), came(120), came(0)} {
				c.Clone().Push(other...)
				d := x.Clone()
				d.Push(other...)
			}
			r.goesOn(t, c, n, len(l))
			if n < len(l) {
				r.goesOn(t, x, n, n+1)
			}
		}
	}
}

// P9.2: with a run of 19, of 99, and of none, each of the two goes on with its own.
func TestCloneInRun(t *testing.T) {
	x := lead.New()
	x.Push(came(-19)...)
	c := x.Clone()
	answers(t, c, []api.Event{sample(19, true)}, api.Item{Kind: 2, At: 19}, api.Item{Kind: 5, At: 19})
	answers(t, x, []api.Event{gap(19)}, api.Item{Kind: 1, At: 19})
	d := x.Clone()
	answers(t, d, []api.Event{sample(19, true)}, api.Item{Kind: 4, At: 19, V: -20})
	answers(t, x, []api.Event{sample(19, true)}, api.Item{Kind: 4, At: 19, V: -20})
	if c.On() || !d.On() || !x.On() {
		t.Fatalf("On: %v, %v, %v", c.On(), d.On(), x.On())
	}
	c.Push(came(99)...)
	e := c.Clone()
	answers(t, e, []api.Event{sample(118, false)}, api.Item{Kind: 3, At: 118}, api.Item{Kind: 4, At: 118, V: 119})
	answers(t, c, []api.Event{sample(118, true)}, api.Item{Kind: 5, At: 118})
	answers(t, c, []api.Event{sample(119, false)}, api.Item{Kind: 5, At: 119})
	if c.On() || !e.On() {
		t.Fatalf("On: %v, %v", c.On(), e.On())
	}
}

// P9.2: a clone, and a clone of that, in the midst of long rows.
func TestCloneInRow(t *testing.T) {
	var x noise
	r := rowOf(x.events(200))
	a := lead.New()
	at := 0
	for _, to := range x.cuts(len(r.l), 40) {
		b := a.Clone()
		b.Clone().Push(x.events(3)...)
		r.goesOn(t, b, at, to)
		r.goesOn(t, a, at, to)
		a = b
		at = to
	}
}

// The rule R5: the same calls in the same order answer the same, whichever other leads there are.
func TestNothingIsShared(t *testing.T) {
	var x noise
	first, second := rowOf(x.events(60)), rowOf(x.events(60))
	l := []*lead.Lead{lead.New(), lead.New(), lead.New(), lead.New()}
	for at := range min(len(first.l), len(second.l)) {
		for i, lead := range l {
			if i%2 == 0 {
				first.goesOn(t, lead, at, at+1)
			} else {
				second.goesOn(t, lead, at, at+1)
			}
		}
	}
}

// The rule R4: what is answered is new memory: whoever gets it may change it, and no other answer, ahead or behind, is another one by it.
func TestAnswersAreNewMemory(t *testing.T) {
	r := rowOf(came(5, -25, 0, 130))
	want := slices.Concat(r.said...)
	x := lead.New()
	first := x.Push(r.l[:15]...)
	c := x.Clone()
	second, third := x.Push(r.l[15:]...), c.Push(r.l[15:]...)
	all, again := lead.Items(r.l...), lead.Items(r.l...)
	stays := func(ahead string, l, want []api.Item) {
		t.Helper()
		if !slices.Equal(l, want) {
			t.Fatalf("behind a change of %s: %v; want %v", ahead, few(l), few(want))
		}
	}
	stays("nothing", first, want[:15])
	spoil(first)
	stays("the first", second, want[15:])
	spoil(second)
	stays("the second", third, want[15:])
	spoil(third)
	stays("the third", all, want)
	spoil(all)
	stays("all", again, want)
	answers(t, x, []api.Event{sample(160, false)}, api.Item{Kind: 4, At: 160, V: 161})
	answers(t, c, []api.Event{sample(160, false)}, api.Item{Kind: 4, At: 160, V: 161})
}

// spoil changes all of a list, and what lies behind it.
func spoil(l []api.Item) {
	l = l[:cap(l)]
	for i := range l {
		l[i] = api.Item{Kind: 9, At: 99, V: 999}
	}
}

// The rule R4: the events are as they were, and what lies behind them, which is not read either; none of them is kept.
func TestArgumentsStay(t *testing.T) {
	r := rowOf(came(3, -25, 0, 2, 0, 100, 4, -20))
	for n := range len(r.l) + 1 {
		for m := n; m <= len(r.l); m += 7 {
			room := slices.Clone(r.l)
			x := lead.New()
			r.goesOnIn(t, x, room, 0, n)
			r.goesOnIn(t, x, room, n, m)
			if !slices.Equal(room, r.l) {
				t.Fatalf("cut at %d and %d: the events are other ones", n, m)
			}
			// What comes behind hangs on nothing that the events' memory becomes.
			clear(room)
			r.goesOn(t, x, m, len(r.l))
		}
		room := slices.Clone(r.l)
		if got, want := lead.Items(room[:n]...), slices.Concat(r.said[:n]...); !slices.Equal(got, want) || !slices.Equal(room, r.l) {
			t.Fatalf("Items of the first %d of more: at last %v; want %v, and the events as they were", n, few(got), few(want))
		}
	}
}

// goesOnIn pushes the events from one place up to another one, as they stand in a list that has more behind them.
func (r *row) goesOnIn(t *testing.T, x *lead.Lead, room []api.Event, from, to int) {
	t.Helper()
	answers(t, x, room[from:to], slices.Concat(r.said[from:to]...)...)
}
