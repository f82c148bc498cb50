package ring_test

import (
	"math"
	"slices"
	"testing"
)

// The chapter's example: with room for 4, two of three find room behind a pop.
func TestExample(t *testing.T) {
	r := made[int](t, 2)
	put(t, r, 3, 1, 2, 3)
	pops(t, r, 1)
	put(t, r, 2, 4, 5, 6)
	holds(t, r, 4, 2, 3, 4, 5)
}

// P2.2: Put of none, of as many as find room, of more, and of a ring that is full.
func TestPut(t *testing.T) {
	for _, c := range []struct {
		there, more []int
		want        int
		stands      []int
	}{
		{nil, nil, 0, nil},
		{nil, []int{}, 0, nil},
		{nil, []int{1}, 1, []int{1}},
		{nil, []int{1, 2, 3, 4}, 4, []int{1, 2, 3, 4}},
		{nil, []int{1, 2, 3, 4, 5}, 4, []int{1, 2, 3, 4}},
		{nil, numbers(1, 100), 4, []int{1, 2, 3, 4}},
		{[]int{1}, nil, 0, []int{1}},
		{[]int{1}, []int{2, 3, 4}, 3, []int{1, 2, 3, 4}},
		{[]int{1}, []int{2, 3, 4, 5}, 3, []int{1, 2, 3, 4}},
		{[]int{1, 2, 3}, []int{9}, 1, []int{1, 2, 3, 9}},
		{[]int{1, 2, 3}, []int{9, 8}, 1, []int{1, 2, 3, 9}},
		{[]int{1, 2, 3, 4}, nil, 0, []int{1, 2, 3, 4}},
		{[]int{1, 2, 3, 4}, []int{5}, 0, []int{1, 2, 3, 4}},
		{[]int{0, 0}, []int{0, 0, 0}, 2, []int{0, 0, 0, 0}},
	} {
		r := filled(t, 2, c.there...)
		put(t, r, c.want, c.more...)
		holds(t, r, 4, c.stands...)
		put(t, r, 0)
		holds(t, r, 4, c.stands...)
	}
}

// P2.2: with room for one thing.
func TestPutOne(t *testing.T) {
	r := made[string](t, 0)
	put(t, r, 1, "a", "b")
	holds(t, r, 1, "a")
	put(t, r, 0, "c")
	pops(t, r, "a")
	holds(t, r, 1)
	popsNone(t, r)
	put(t, r, 1, "d")
	takes(t, r, 9, "d")
	holds(t, r, 1)
}

// P2.2: Pop of none there, of what there is, and of none again.
func TestPop(t *testing.T) {
	r := made[int](t, 1)
	popsNone(t, r)
	popsNone(t, r)
	put(t, r, 2, 5, 0)
	pops(t, r, 5)
	holds(t, r, 2, 0)
	pops(t, r, 0) // a thing that is its zero value is there, too
	popsNone(t, r)
	holds(t, r, 2)
}

// P2.2: Take of an n below 1, of some, of all, and of more than there are.
func TestTake(t *testing.T) {
	for _, c := range []struct {
		n            int
		taken, stays []int
	}{
		{math.MinInt, nil, []int{1, 2, 3}},
		{-1, nil, []int{1, 2, 3}},
		{0, nil, []int{1, 2, 3}},
		{1, []int{1}, []int{2, 3}},
		{2, []int{1, 2}, []int{3}},
		{3, []int{1, 2, 3}, nil},
		{4, []int{1, 2, 3}, nil},
		{5, []int{1, 2, 3}, nil},
		{math.MaxInt, []int{1, 2, 3}, nil},
	} {
		r := filled(t, 2, 1, 2, 3)
		takes(t, r, c.n, c.taken...)
		holds(t, r, 4, c.stays...)
	}
}

// P2.2: Take of none there.
func TestTakeNone(t *testing.T) {
	r := made[int](t, 3)
	for _, n := range []int{math.MinInt, -1, 0, 1, 8, 9, math.MaxInt} {
		takes(t, r, n)
		holds(t, r, 8)
	}
	put(t, r, 1, 4)
	takes(t, r, 1, 4)
	takes(t, r, 1)
	holds(t, r, 8)
}

// P2.2: what is handed in is neither kept nor changed, nor what lies behind its length.
func TestPutKeepsNothing(t *testing.T) {
	within := []int{1, 2, 3, 4, 5, 6}
	l := within[:3]
	r := filled(t, 2, l...)
	l[0] = 99
	holds(t, r, 4, 1, 2, 3)
	pops(t, r, 1)
	put(t, r, 2, 7, 8)
	r.Take(2)
	r.Clear()
	if !slices.Equal(within, []int{99, 2, 3, 4, 5, 6}) {
		t.Errorf("what was handed in became %v", within)
	}
}

// P2.2: whoever gets a list may change it, and put behind it.
func TestTakeSharesNothing(t *testing.T) {
	r := filled(t, 2, 1, 2, 3, 4)
	first := r.Take(2)
	put(t, r, 2, 5, 6)
	second := r.Take(2)
	for i := range first {
		first[i] = -1
	}
	_ = append(first, -2, -3)
	if !slices.Equal(second, []int{3, 4}) {
		t.Errorf("another list became %v", second)
	}
	_ = append(second[:0], -4, -5)
	_ = append(second, -6, -7)
	holds(t, r, 4, 5, 6)
}
