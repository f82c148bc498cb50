package ring_test

import (
	"math"
	"testing"

	"systole/ring"
)

// P2.3: places below 0, the first, the last, and beyond it; of a ring that has none, some, all.
func TestAtAndBack(t *testing.T) {
	r := made[int](t, 2)
	for n := range 5 {
		for _, c := range []struct{ i, at, back int }{
			{math.MinInt, -1, -1},
			{-2, -1, -1},
			{-1, -1, -1},
			{0, 0, n - 1},
			{1, 1, n - 2},
			{n - 1, n - 1, 0},
			{n, -1, -1},
			{n + 1, -1, -1},
			{4, -1, -1},
			{8, -1, -1},
			{math.MaxInt, -1, -1},
		} {
			there := c.i >= 0 && c.i < n
			looked(t, "At", r.At, c.i, there, 100+c.at)
			looked(t, "Back", r.Back, c.i, there, 100+c.back)
		}
		holds(t, r, 4, numbers(100, 100+n)...)
		r.Put(100 + n)
	}
}

// looked asks for one place: the thing, if it is there, else 0.
func looked(t *testing.T, name string, call func(int) (int, bool), i int, there bool, want int) {
	t.Helper()
	if !there {
		want = 0
	}
	if x, ok := call(i); x != want || ok != there {
		t.Errorf("%s(%d): %d, %v; want %d, %v", name, i, x, ok, want, there)
	}
}

// P2.3: what was taken is not there any more, though its slot still is.
func TestLookedBehindTaken(t *testing.T) {
	r := filled(t, 2, 1, 2, 3, 4)
	pops(t, r, 1)
	holds(t, r, 4, 2, 3, 4)
	takes(t, r, 2, 2, 3)
	holds(t, r, 4, 4)
	pops(t, r, 4)
	holds(t, r, 4)
}

// P2.3: a look changes nothing.
func TestLookChangesNothing(t *testing.T) {
	r := filled(t, 2, 1, 2, 3)
	for range 9 {
		r.At(0)
		r.Back(0)
		r.At(7)
		r.Back(7)
		r.Len()
		r.Room()
		r.Clone()
	}
	holds(t, r, 4, 1, 2, 3)
}

// P2.3: Clear of a ring that has none, some, all, and goes round; it has all its room again.
func TestClear(t *testing.T) {
	for gone := range 9 {
		for there := range 5 {
			r := turned(t, gone, numbers(1, 1+there)...)
			r.Clear()
			holds(t, r, 4)
			popsNone(t, r)
			takes(t, r, 4)
			put(t, r, 4, 11, 12, 13, 14, 15)
			holds(t, r, 4, 11, 12, 13, 14)
			r.Clear()
			r.Clear()
			holds(t, r, 4)
		}
	}
}

// turned is a ring with room for 4, through which that many things went, and which then has these.
func turned(t *testing.T, gone int, l ...int) *ring.Ring[int] {
	t.Helper()
	r := made[int](t, 2)
	for range gone {
		put(t, r, 1, 99)
		pops(t, r, 99)
	}
	put(t, r, len(l), l...)
	return r
}

// P2.3: Clone has the same things and room, wherever they stand.
func TestClone(t *testing.T) {
	for gone := range 9 {
		for there := range 5 {
			want := numbers(1, 1+there)
			r := turned(t, gone, want...)
			c := r.Clone()
			if c == r {
				t.Fatal("Clone is the ring itself")
			}
			holds(t, c, 4, want...)
			holds(t, r, 4, want...)
			put(t, c, 4-there, 21, 22, 23, 24)
			takes(t, c, there, want...)
			takes(t, c, 4, numbers(21, 25-there)...)
			holds(t, r, 4, want...)
		}
	}
}

// P2.3: what is done with the one changes nothing in the other.
func TestCloneApart(t *testing.T) {
	for _, c := range []struct {
		name string
		done func(r *ring.Ring[int])
	}{
		{"Put", func(r *ring.Ring[int]) { r.Put(9) }},
		{"Pop", func(r *ring.Ring[int]) { r.Pop() }},
		{"Take", func(r *ring.Ring[int]) { r.Take(2) }},
		{"Clear", func(r *ring.Ring[int]) { r.Clear() }},
		{"Pop and Put", func(r *ring.Ring[int]) { r.Pop(); r.Put(7, 8) }},
		{"Clear and Put", func(r *ring.Ring[int]) { r.Clear(); r.Put(5, 6, 7, 8) }},
	} {
		t.Run(c.name, func(t *testing.T) {
			r := turned(t, 3, 1, 2, 3)
			other := r.Clone()
			c.done(r)
			holds(t, other, 4, 1, 2, 3)

			r = turned(t, 3, 1, 2, 3)
			c.done(r.Clone())
			holds(t, r, 4, 1, 2, 3)
		})
	}
}

// P2.3: a clone of a clone, and of an empty ring.
func TestCloneAgain(t *testing.T) {
	r := filled(t, 1, "a", "b")
	c := r.Clone().Clone()
	r.Clear()
	holds(t, c, 2, "a", "b")
	holds(t, r.Clone(), 2)
}
