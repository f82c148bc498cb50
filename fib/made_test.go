package fib_test

import (
	"testing"

	"systole/api"
	"systole/fib"
)

// The chapter's example, and what the limits are.
func TestExample(t *testing.T) {
	c := of(t, 5)
	comes(t, c, 2, 0, 5, 9, 4, 5)
	is(t, c, 5, 2)
	if api.FibWin != last || api.BoundHigh != highest {
		t.Errorf("the limits are %d and %d", api.FibWin, api.BoundHigh)
	}
}

// P21.1: the heights that may be, at their ends and just within; a new counter has its height, and no crossing.
func TestNew(t *testing.T) {
	for _, height := range []int64{1, 2, 3, 10, 200, 32767, 65536, 142845, 142846, 142847} {
		is(t, of(t, height), height, 0)
	}
	for height := int64(1); height <= highest; height += 97 {
		c := of(t, height)
		if got := c.Height(); got != height {
			t.Errorf("Height: %d; want %d", got, height)
		}
		comes(t, c, 1, height-1, height)
	}
}

// P21.1: ErrArg, and nil, of the heights that may not be: just beyond their ends, 0, below 0, and up to the ends of the range of 64 bits.
func TestNewErrors(t *testing.T) {
	l := []int64{
		0, -1, -2, -5, -200, -142847, -142848, 142848, 142849, 285694, 1<<31 - 1, 1 << 31, 1 << 32, 1<<32 + 1, 1<<32 + 5, 1<<32 + 142847, 1 << 48, 1 << 62, most - 1, most,
		-1 << 31, -1 << 32, -1<<32 + 5, -1<<32 + 142847, -1 << 62, -1<<62 + 200, least, least + 1, least + 5,
	}
	for _, height := range l {
		if c, e := fib.New(height); e != api.ErrArg || c != nil {
			t.Errorf("New(%d): %v, %v", height, c, e)
		}
	}
}

// P21.1: whichever call is the first one of a new counter, it answers as of one to which nothing came.
func TestFirstCall(t *testing.T) {
	for _, height := range heights() {
		if got := of(t, height).Count(); got != 0 {
			t.Errorf("Count: %d", got)
		}
		if got := of(t, height).Height(); got != height {
			t.Errorf("Height: %d; want %d", got, height)
		}
		comes(t, of(t, height), 0)
		comes(t, of(t, height), 0, nil...)
		comes(t, of(t, height), 0, []int64{}...)
		c := of(t, height)
		c.Reset()
		is(t, c, height, 0)
	}
}

// P21.1: each call of a counter that no call made, that is nil: 0; nothing is done, and it stays so.
func TestNil(t *testing.T) {
	var c *fib.Counter
	is(t, c, 0, 0)
	for range 2 {
		for _, v := range ends() {
			comes(t, c, 0, v)
			comes(t, c, 0, -5, v, -5, v)
		}
		comes(t, c, 0, turns(-1, 142847, 1000)...)
		comes(t, c, 0)
		c.Reset()
		is(t, c, 0, 0)
		if c != nil {
			t.Error("it is not nil any more")
		}
	}
	none, e := fib.New(0)
	comes(t, none, 0, -1, 5, -1, 5)
	none.Reset()
	is(t, none, 0, 0)
	if e != api.ErrArg {
		t.Errorf("New(0): %v", e)
	}
}

// states are rows that bring a counter of a height to each kind of state: with nothing, below the height, at it, and above it; without crossings, with few, with as many as there may be, and with none any more.
func states(height int64) [][]int64 {
	b := height - 1
	return [][]int64{
		{}, {b}, {height}, {height + 1}, {b, b}, {height, height}, {b, height}, {height, b}, {b, height, b}, {b, height, b, height}, {least, most}, {most, least}, {b, height, most},
		times(b, 399), times(b, 400), times(b, 401), times(most, 500), append(times(b, 400), height), append(times(most, 400), b),
		turns(b, height, 399), turns(b, height, 400), turns(b, height, 401), turns(height, b, 400), turns(height, b, 401), turns(b, height, 1000), turns(b, height, 1001),
		append(turns(b, height, 402), times(b, 200)...), append(turns(b, height, 402), times(b, 400)...), append(turns(b, height, 402), times(height, 401)...),
	}
}

// afterReset looks that a counter is as New, by each kind of value that may come next.
func afterReset(t *testing.T, h *held, ahead []int64, resets int) {
	t.Helper()
	height := h.height
	for _, next := range [][]int64{{height}, {height + 1}, {most}, {height - 1}, {least}, {height, height - 1, height}, {height - 1, height}, turns(height, height-1, 402), turns(height-1, height, 402)} {
		h.push(t, ahead...)
		for range resets {
			h.reset(t)
		}
		for _, v := range next {
			h.push(t, v)
		}
		h.reset(t)
		h.push(t, next...)
		h.reset(t)
	}
}

// P21.1: Reset behind each kind of state, and twice: as New, with the same height; the next value has none ahead.
func TestReset(t *testing.T) {
	for _, height := range []int64{1, 5, 142847} {
		h := heldOf(t, height)
		h.reset(t)
		h.reset(t)
		for _, ahead := range states(height) {
			afterReset(t, h, ahead, 1)
			afterReset(t, h, ahead, 2)
		}
	}
}

// P21.1: Reset, written out: a value below the height ahead of it lets none behind it be a crossing, and the crossings ahead count no more.
func TestResetWrittenOut(t *testing.T) {
	c := of(t, 10)
	comes(t, c, 0, 9)
	c.Reset()
	comes(t, c, 0, 10)
	comes(t, c, 1, 9, 10)
	c.Reset()
	is(t, c, 10, 0)
	comes(t, c, 0, 11)
	comes(t, c, 0, 9)
	comes(t, c, 1, 10)
	comes(t, c, 2, 9, 11)
	comes(t, c, 2, 9)
	c.Reset()
	c.Reset()
	is(t, c, 10, 0)
	comes(t, c, 0, most)
	comes(t, c, 0, least)
	comes(t, c, 1, most)
	// The 400 values are counted from Reset on, too.
	c.Reset()
	comes(t, c, 1, 0, 10)
	comes(t, c, 1, times(10, 399)...)
	comes(t, c, 0, 10)
}

// P21.1: behind Reset values come as to a new counter, each alike.
func TestResetIsNew(t *testing.T) {
	var x noise
	for range 200 {
		height := x.height()
		c, other := of(t, height), of(t, height)
		c.Push(x.row(x.upTo(kinds), height, x.upTo(900))...)
		c.Reset()
		for _, v := range x.row(x.upTo(kinds), height, x.upTo(900)) {
			if got, want := c.Push(v), other.Push(v); got != want {
				t.Fatalf("behind Reset: %d; a new one: %d", got, want)
			}
		}
	}
}
