package annal_test

import (
	"slices"
	"testing"

	"systole/annal"
	"systole/api"
)

// The chapter's example: behind 70 outs 64 are kept, and 6 dropped.
func TestExample(t *testing.T) {
	l := row(0, 70)
	for _, a := range []*annal.Annal{of(l...), inParts(1, l), inParts(9, l)} {
		if a.Len() != 64 || a.Dropped() != 6 {
			t.Errorf("Len %d, Dropped %d", a.Len(), a.Dropped())
		}
		if o, ok := a.At(0); o != l[6] || !ok {
			t.Errorf("At(0): %+v, %v", o, ok)
		}
		if o, ok := a.At(63); o != l[69] || !ok {
			t.Errorf("At(63): %+v, %v", o, ok)
		}
		if o, ok := a.At(64); o != (api.Out{}) || ok {
			t.Errorf("At(64): %+v, %v", o, ok)
		}
		lasts(t, a, 3, outs{l[67], l[68], l[69]})
		lasts(t, a, 64, l[6:])
		lasts(t, a, 70, l[6:])
	}
}

// P25.1, written out: outs stand in the order in which they were added, in one call or in some.
func TestInOrder(t *testing.T) {
	x, y, z := api.Out{Kind: 2, At: 30, Alarm: 4}, api.Out{Kind: 1, At: 10, N: 90}, api.Out{Kind: 7, At: 20, N: 1}
	for _, cut := range []int{1, 2, 3} {
		a := inParts(cut, outs{x, y, z})
		for i, want := range (outs{x, y, z}) {
			if o, ok := a.At(i); o != want || !ok {
				t.Errorf("At(%d): %+v, %v", i, o, ok)
			}
		}
		lasts(t, a, 1, outs{z})
		lasts(t, a, 2, outs{y, z})
		lasts(t, a, 3, outs{x, y, z})
		lasts(t, a, 4, outs{x, y, z})
		if a.Len() != 3 || a.Dropped() != 0 || a.Count(1) != 1 || a.Count(2) != 1 || a.Count(7) != 1 || a.Count(0) != 0 {
			t.Errorf("Len %d, Dropped %d", a.Len(), a.Dropped())
		}
	}
}

// P25.1, P25.2, P25.3: so many outs, in one call, one by one, and in calls of other sizes, come to the same.
func TestCuts(t *testing.T) {
	for _, many := range amounts() {
		all := row(5, many)
		is(t, of(all...), all)
		lastsAll(t, of(all...), all)
		for _, size := range []int{1, 2, 3, 7, 31, 32, 33, 63, 64, 65, 100, 128, 200} {
			a := inParts(size, all)
			is(t, a, all)
			lastsAll(t, a, all)
		}
	}
}

// P25.1: each way to cut a row in two, and a call that goes over the 64th out, or is of more than 64.
func TestCutInTwo(t *testing.T) {
	for _, many := range []int{1, 63, 64, 65, 128, 129, 200} {
		all := row(0, many)
		for cut := range many + 1 {
			a := of(all[:cut]...)
			is(t, a, all[:cut])
			a.Add(all[cut:]...)
			is(t, a, all)
			lasts(t, a, room, end(all))
		}
	}
}

// P25.2, P25.3: behind each out of a long row.
func TestOneByOne(t *testing.T) {
	all := row(0, 700)
	a := annal.New()
	for n, o := range all {
		a.Add(o)
		is(t, a, all[:n+1])
		lasts(t, a, room, end(all[:n+1]))
		lasts(t, a, 1, outs{o})
	}
}

// P25.1: to add none changes nothing.
func TestAddNone(t *testing.T) {
	for _, many := range amounts() {
		all := row(0, many)
		a := of(all...)
		a.Add()
		a.Add(nil...)
		a.Add(outs{}...)
		a.Add(all[:0]...)
		is(t, a, all)
		lastsAll(t, a, all)
	}
}

// P25.1: outs whose every number is used come back as they were added; one with 0 throughout is one as well.
func TestEachField(t *testing.T) {
	l := outs{
		{},
		{Kind: 8, At: most, Alarm: most, N: most},
		{Kind: 9, At: least, Alarm: least, N: least},
		{Kind: 1, At: 1 << 40, Alarm: 5, N: -1},
		{Kind: most, At: -1, Alarm: -1, N: 1<<32 + 7},
		{Kind: least, At: 1<<32 + 3, Alarm: 1<<32 + 2, N: 24000},
		{Kind: 1},
		{At: 1},
		{Alarm: 1},
		{N: 1},
		{},
	}
	a := of(l...)
	is(t, a, l)
	lastsAll(t, a, l)
	for i, want := range l {
		if o, ok := a.At(i); o != want || !ok {
			t.Errorf("At(%d): %+v, %v; want %+v", i, o, ok, want)
		}
		lasts(t, of(want), 1, outs{want})
	}
	// Also where they were dropped, and stand again.
	all := append(slices.Concat(l, row(0, 90)), l...)
	is(t, of(all...), all)
	lasts(t, of(all...), len(l), l)
}

// P25.1: the same out added twice is there twice, next to each other or not; and so are many that are alike.
func TestTwice(t *testing.T) {
	x, y := api.Out{Kind: 2, At: 7, Alarm: 3}, api.Out{Kind: 3, At: 7, Alarm: 3}
	a := of(x, x, y, x)
	is(t, a, outs{x, x, y, x})
	lasts(t, a, 4, outs{x, x, y, x})
	if a.Count(2) != 3 || a.Len() != 4 {
		t.Errorf("Count %d, Len %d", a.Count(2), a.Len())
	}
	a = annal.New()
	for n := range 150 {
		a.Add(x)
		if a.Count(2) != int64(n+1) || a.Len() != min(n+1, room) || a.Dropped() != int64(max(0, n+1-room)) {
			t.Fatalf("behind %d: Count %d, Len %d, Dropped %d", n+1, a.Count(2), a.Len(), a.Dropped())
		}
	}
	lasts(t, a, room, slices.Repeat(outs{x}, room))
}

// P25.1: an At plays no part in what is dropped: the ones that were added first go.
func TestWhateverAt(t *testing.T) {
	var all outs
	for n := range 90 {
		all = append(all, api.Out{Kind: 1, At: int64(1000 - 10*n), N: int64(n)}, api.Out{Kind: 2, At: int64(n * n % 7)})
	}
	is(t, of(all...), all)
	lastsAll(t, of(all...), all)
}
