package annal_test

import (
	"testing"

	"systole/annal"
	"systole/api"
)

// P25.1: of each kind from 0 to 9, and of none but it, each out is counted, kept or not.
func TestCount(t *testing.T) {
	for kind := range kinds {
		a := annal.New()
		for n := range int64(200) {
			for other := -3; other < 15; other++ {
				want := int64(0)
				if other == kind {
					want = n
				}
				if got := a.Count(other); got != want {
					t.Fatalf("behind %d of %d: Count(%d): %d", n, kind, other, got)
				}
			}
			a.Add(api.Out{Kind: kind, At: n})
		}
	}
}

// P25.1: how many there are of each kind, each unlike the others, also when all of them were dropped.
func TestCountEach(t *testing.T) {
	a := annal.New()
	for kind := range kinds {
		for range 3*kind + 1 {
			a.Add(api.Out{Kind: kind})
		}
	}
	for range 2 {
		for kind := range kinds {
			if n := a.Count(kind); n != int64(3*kind+1) {
				t.Errorf("Count(%d): %d", kind, n)
			}
		}
		for range 100 {
			a.Add(api.Out{Kind: 10})
		}
	}
	if a.Len() != 64 || a.Dropped() != 145+200-64 {
		t.Errorf("Len %d, Dropped %d", a.Len(), a.Dropped())
	}
}

// P25.1: other kinds are not counted, but such an out is kept, and dropped, as any other.
func TestOtherKinds(t *testing.T) {
	for _, kind := range otherKinds() {
		a := annal.New()
		var all outs
		for n := range int64(70) {
			o := api.Out{Kind: kind, At: n}
			all = append(all, o)
			a.Add(o)
			if got := a.Count(kind); got != 0 {
				t.Fatalf("Count(%d): %d", kind, got)
			}
		}
		is(t, a, all)
		lasts(t, a, room, end(all))
		// Some that are counted let them go.
		for n := range int64(64) {
			o := api.Out{Kind: int(n % 10), At: n}
			all = append(all, o)
			a.Add(o)
		}
		is(t, a, all)
		if a.Count(kind) != 0 {
			t.Fatalf("Count(%d): %d", kind, a.Count(kind))
		}
	}
}

// P25.1: Count of a kind that is not counted is 0, also behind many of all kinds.
func TestCountOfOthers(t *testing.T) {
	var all outs
	for range 20 {
		for _, kind := range otherKinds() {
			all = append(all, api.Out{Kind: kind})
		}
		for kind := range kinds {
			all = append(all, api.Out{Kind: kind})
		}
	}
	a := of(all...)
	for _, kind := range otherKinds() {
		if n := a.Count(kind); n != 0 {
			t.Errorf("Count(%d): %d", kind, n)
		}
	}
	for kind := range kinds {
		if n := a.Count(kind); n != 20 {
			t.Errorf("Count(%d): %d", kind, n)
		}
	}
}

// P25.1, P25.2: counts go on behind hundreds of thousands of outs.
func TestMany(t *testing.T) {
	const many = 300000
	l := make(outs, 0, many)
	for n := range many {
		l = append(l, api.Out{Kind: 3 + n%2*6, At: int64(n)})
	}
	a := of(l...)
	is(t, a, l)
	if a.Count(3) != many/2 || a.Count(9) != many/2 || a.Dropped() != many-64 {
		t.Errorf("Count(3) %d, Count(9) %d, Dropped %d", a.Count(3), a.Count(9), a.Dropped())
	}
	lastsAll(t, a, l)
}
