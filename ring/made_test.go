package ring_test

import (
	"math"
	"testing"

	"systole/api"
	"systole/ring"
)

// P2.1: a log that may not be.
func TestNewRefuses(t *testing.T) {
	for _, log := range []int{-1, -2, -64, math.MinInt, api.MaxRing + 1, api.MaxRing + 2, 62, 63, 64, math.MaxInt} {
		if r, e := ring.New[int](log); r != nil || e != api.ErrArg {
			t.Errorf("New(%d): %v, error %d", log, r, e)
		}
		if r, e := ring.New[string](log); r != nil || e != api.ErrArg {
			t.Errorf("New(%d) of texts: %v, error %d", log, r, e)
		}
	}
}

// P2.1: each log that may be: an empty ring, which takes just as much as it says.
func TestNewRoom(t *testing.T) {
	for log := 0; log <= api.MaxRing; log++ {
		room := 1 << log
		r := made[int](t, log)
		holds(t, r, room)
		popsNone(t, r)
		put(t, r, room, numbers(0, room+1)...)
		if r.Len() != room || r.Room() != 0 {
			t.Fatalf("log %d: Len %d, Room %d", log, r.Len(), r.Room())
		}
		if x, ok := r.Back(0); x != room-1 || !ok {
			t.Fatalf("log %d: the last one is %d, %v", log, x, ok)
		}
		takes(t, r, room+1, numbers(0, room)...)
		holds(t, r, room)
	}
}

// P2.1: a log of 0, and the greatest one.
func TestNewEdges(t *testing.T) {
	one := made[int](t, 0)
	if one.Room() != 1 {
		t.Errorf("log 0: room for %d", one.Room())
	}
	most := made[byte](t, 16)
	if most.Room() != 65536 {
		t.Errorf("log 16: room for %d", most.Room())
	}
}

// P2.1: two rings have nothing in common.
func TestNewApart(t *testing.T) {
	a, b := made[int](t, 2), made[int](t, 2)
	a.Put(1, 2)
	holds(t, b, 4)
	b.Put(7)
	holds(t, a, 4, 1, 2)
	holds(t, b, 4, 7)
}

// P2.1: a ring that no call made, that is nil, of things of several kinds.
func TestNil(t *testing.T) {
	nilAnswers(t, 5, 6)
	nilAnswers(t, "a", "b")
	nilAnswers(t, api.Sample{V: 3, Off: true}, api.Sample{V: 4})
	nilAnswers(t, &api.Sample{}, nil)
}

// nilAnswers asks a nil ring by each call.
func nilAnswers[T comparable](t *testing.T, l ...T) {
	t.Helper()
	var r *ring.Ring[T]
	for range 2 {
		put(t, r, 0)
		put(t, r, 0, l[0])
		put(t, r, 0, l...)
		holds(t, r, 0)
		popsNone(t, r)
		for _, n := range []int{math.MinInt, -1, 0, 1, 2, math.MaxInt} {
			takes(t, r, n)
		}
		var none T
		for _, i := range []int{0, 1} {
			if x, ok := r.At(i); x != none || ok {
				t.Errorf("At(%d) of nil: %v, %v", i, x, ok)
			}
			if x, ok := r.Back(i); x != none || ok {
				t.Errorf("Back(%d) of nil: %v, %v", i, x, ok)
			}
		}
		r.Clear()
		if c := r.Clone(); c != nil {
			t.Errorf("Clone of nil: %v", c)
		}
	}
}

// P2.1: things of any kind, also such as can't be held against each other.
func TestKinds(t *testing.T) {
	texts := filled(t, 1, "a", "")
	pops(t, texts, "a")
	holds(t, texts, 2, "")

	events := filled(t, 1, api.Event{Kind: api.EvSample, At: 9, Sample: api.Sample{V: -3, Off: true}})
	holds(t, events, 2, api.Event{Kind: api.EvSample, At: 9, Sample: api.Sample{V: -3, Off: true}})

	empty := made[struct{}](t, 2)
	put(t, empty, 4, make([]struct{}, 6)...)
	takes(t, empty, 3, make([]struct{}, 3)...)
	holds(t, empty, 4, struct{}{})

	lists := filled(t, 1, []int{1, 2}, nil)
	if l, ok := lists.Pop(); len(l) != 2 || l[1] != 2 || !ok {
		t.Errorf("a list: %v, %v", l, ok)
	}
	if l, ok := lists.Pop(); l != nil || !ok {
		t.Errorf("a list that is nil: %v, %v", l, ok)
	}

	calls := filled(t, 1, func() int { return 5 })
	if f, ok := calls.At(0); !ok || f() != 5 {
		t.Errorf("a function: %v", ok)
	}
	if f, ok := calls.At(1); ok || f != nil {
		t.Errorf("no function: %v", ok)
	}

	anything := filled[any](t, 2, 1, "b", nil)
	holds(t, anything, 4, 1, "b", nil)

	rings := filled(t, 1, made[int](t, 2))
	if r, ok := rings.Pop(); !ok || r.Room() != 4 {
		t.Errorf("a ring: %v", ok)
	}
}
