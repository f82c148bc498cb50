package annal_test

import (
	"slices"
	"testing"

	"systole/annal"
	"systole/api"
)

// spoil changes a list, and all that its room has.
func spoil(l outs) {
	l = l[:cap(l)]
	for i := range l {
		l[i] = api.Out{Kind: 5, At: -5, Alarm: 77, N: -1}
	}
}

// R4: what is handed in is as it was, also what lies behind a list's length, which plays no part.
func TestHandedIn(t *testing.T) {
	for _, many := range amounts() {
		all := row(0, many+20)
		before := slices.Clone(all)
		a := of(all[:many]...)
		if !slices.Equal(all, before) {
			t.Fatal("the list is another one")
		}
		is(t, a, before[:many])
		a.Last(room)
		a.Clone().Add(row(3000, 90)...)
		a.Add(row(4000, 90)...)
		if !slices.Equal(all, before) {
			t.Fatal("the list is another one")
		}
	}
}

// R4: a list that is changed behind the call changes nothing.
func TestListsAreNotKept(t *testing.T) {
	for _, many := range amounts() {
		all := row(0, many)
		a, b := annal.New(), annal.New()
		l := slices.Clone(all)
		a.Add(l...)
		spoil(l)
		is(t, a, all)
		lastsAll(t, a, all)
		// One list, used again and again.
		used := make(outs, 1, 4)
		for _, o := range all {
			used[0] = o
			b.Add(used...)
			spoil(used)
		}
		is(t, b, all)
		lastsAll(t, b, all)
	}
}

// R4: what Last answers is new memory each time: it may be changed, and added to, and neither what is kept nor another answer changes.
func TestAnswersAreNew(t *testing.T) {
	for _, many := range amounts() {
		all := row(0, many)
		a, kept := of(all...), end(all)
		c := a.Clone()
		for n := range room + 3 {
			first, second := a.Last(n), a.Last(n)
			other := c.Last(n)
			spoil(first)
			_ = append(first, row(600, 70)...)
			want := kept[max(0, len(kept)-n):]
			if !slices.Equal(second, want) || !slices.Equal(other, want) {
				t.Fatalf("behind %d: Last(%d) is another one", many, n)
			}
			spoil(other)
			lasts(t, a, n, want)
			lasts(t, c, n, want)
		}
		is(t, a, all)
		is(t, c, all)
		// An answer stays as it was, whatever comes behind it.
		l := a.Last(room)
		a.Add(row(800, 100)...)
		if !slices.Equal(l, kept) {
			t.Fatalf("behind %d: an answer is another one", many)
		}
	}
}

// R4: what Last answered may be handed in.
func TestOwnAnswer(t *testing.T) {
	for _, many := range amounts() {
		all := row(0, many)
		a := of(all...)
		for _, n := range []int{1, 5, 64} {
			l := a.Last(n)
			a.Add(l...)
			all = append(all, l...)
			is(t, a, all)
			lasts(t, a, room, end(all))
		}
	}
}

// R5: the same calls in the same order answer the same.
func TestSame(t *testing.T) {
	x := noise(41)
	for range 10 {
		one, two, three := annal.New(), annal.New(), annal.New()
		for range 60 {
			l := x.some(x.size())
			for _, a := range []*annal.Annal{one, two, three} {
				a.Add(l...)
			}
			alike(t, two, one)
			alike(t, three, one)
		}
	}
}
