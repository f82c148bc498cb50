package ring_test

import (
	"math"
	"slices"
	"testing"

	"systole/api"
	"systole/ring"
)

// made is a ring with room for 2^log things.
func made[T any](t *testing.T, log int) *ring.Ring[T] {
	t.Helper()
	r, e := ring.New[T](log)
	if e != api.OK || r == nil {
		t.Fatalf("New(%d): %v, error %d", log, r, e)
	}
	return r
}

// filled is a ring with room for 2^log things that has these.
func filled[T any](t *testing.T, log int, l ...T) *ring.Ring[T] {
	t.Helper()
	r := made[T](t, log)
	if n := r.Put(l...); n != len(l) {
		t.Fatalf("Put of %v: %d", l, n)
	}
	return r
}

// numbers are those from a on, ahead of b.
func numbers(a, b int) []int {
	var l []int
	for n := a; n < b; n++ {
		l = append(l, n)
	}
	return l
}

// holds looks at a ring by every call that changes nothing: it is to have that much room in all, and these things.
func holds[T comparable](t *testing.T, r *ring.Ring[T], room int, want ...T) {
	t.Helper()
	if r.Len() != len(want) || r.Room() != room-len(want) {
		t.Fatalf("Len %d, Room %d; want %d, %d", r.Len(), r.Room(), len(want), room-len(want))
	}
	for i, w := range want {
		if x, ok := r.At(i); x != w || !ok {
			t.Fatalf("At(%d): %v, %v; want %v of %v", i, x, ok, w, want)
		}
		if x, ok := r.Back(len(want) - 1 - i); x != w || !ok {
			t.Fatalf("Back(%d): %v, %v; want %v of %v", len(want)-1-i, x, ok, w, want)
		}
	}
	var none T
	for _, i := range []int{-1, -2, -room, math.MinInt, math.MinInt + 1, len(want), len(want) + 1, room, room + 1, math.MaxInt} {
		if i >= 0 && i < len(want) {
			continue
		}
		if x, ok := r.At(i); x != none || ok {
			t.Fatalf("At(%d) of %v: %v, %v", i, want, x, ok)
		}
		if x, ok := r.Back(i); x != none || ok {
			t.Fatalf("Back(%d) of %v: %v, %v", i, want, x, ok)
		}
	}
}

// put tells of a Put that is to find room for that many.
func put[T any](t *testing.T, r *ring.Ring[T], want int, l ...T) {
	t.Helper()
	if n := r.Put(l...); n != want {
		t.Fatalf("Put of %v: %d; want %d", l, n, want)
	}
}

// pops tells of a Pop that is to answer this thing.
func pops[T comparable](t *testing.T, r *ring.Ring[T], want T) {
	t.Helper()
	if x, ok := r.Pop(); x != want || !ok {
		t.Fatalf("Pop: %v, %v; want %v", x, ok, want)
	}
}

// popsNone tells of a Pop of a ring that has nothing.
func popsNone[T comparable](t *testing.T, r *ring.Ring[T]) {
	t.Helper()
	var none T
	if x, ok := r.Pop(); x != none || ok {
		t.Fatalf("Pop of none there: %v, %v", x, ok)
	}
}

// takes tells of a Take that is to answer these things.
func takes[T comparable](t *testing.T, r *ring.Ring[T], n int, want ...T) {
	t.Helper()
	if l := r.Take(n); !slices.Equal(l, want) {
		t.Fatalf("Take(%d): %v; want %v", n, l, want)
	}
}
