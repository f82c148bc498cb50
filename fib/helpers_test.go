package fib_test

import (
	"math"
	"slices"
	"testing"

	"systole/api"
	"systole/fib"
)

const (
	most    = math.MaxInt64
	least   = math.MinInt64
	highest = 142847
	last    = 400
)

// countOf is how many of the last values are crossings by the chapter's words, of all that came.
func countOf(height int64, came []int64) int64 {
	var many int64
	for i := max(0, len(came)-last); i < len(came); i++ {
		if i > 0 && came[i-1] < height && came[i] >= height {
			many++
		}
	}
	return many
}

// of is a new counter of a height that may be.
func of(t *testing.T, height int64) *fib.Counter {
	t.Helper()
	c, e := fib.New(height)
	if e != api.OK || c == nil {
		t.Fatalf("New(%d): %v, %v", height, c, e)
	}
	return c
}

// is looks at all that a counter answers and that changes nothing, twice in a row.
func is(t *testing.T, c *fib.Counter, height, count int64) {
	t.Helper()
	for range 2 {
		if got := c.Count(); got != count {
			t.Fatalf("Count: %d; want %d", got, count)
		}
		if got := c.Height(); got != height {
			t.Fatalf("Height: %d; want %d", got, height)
		}
		if got := c.Push(); got != count {
			t.Fatalf("Push of no value: %d; want %d", got, count)
		}
	}
}

// comes pushes values in one call, and looks at the count behind the last one.
func comes(t *testing.T, c *fib.Counter, count int64, h ...int64) {
	t.Helper()
	end := h[max(0, len(h)-10):]
	if got := c.Push(h...); got != count {
		t.Fatalf("Push of %d values, the last of them %v: %d; want %d", len(h), end, got, count)
	}
	if got := c.Count(); got != count {
		t.Fatalf("Count behind %d values, the last of them %v: %d; want %d", len(h), end, got, count)
	}
}

// held is a counter, and all that came to it since it was made, or Reset.
type held struct {
	*fib.Counter
	height int64
	came   []int64
}

// heldOf is a new counter of a height.
func heldOf(t *testing.T, height int64) *held {
	t.Helper()
	h := &held{Counter: of(t, height), height: height}
	h.look(t)
	return h
}

// look holds all that the counter answers against the chapter's words.
func (h *held) look(t *testing.T) {
	t.Helper()
	is(t, h.Counter, h.height, countOf(h.height, h.came))
}

// push lets values come in one call, and looks at the counter.
func (h *held) push(t *testing.T, l ...int64) {
	t.Helper()
	h.came = append(h.came, l...)
	if got, want := h.Push(l...), countOf(h.height, h.came); got != want {
		t.Fatalf("height %d, behind %d values, the last of them %v: %d; want %d", h.height, len(h.came), h.came[max(0, len(h.came)-10):], got, want)
	}
	h.look(t)
}

// reset makes it as New, and looks at it.
func (h *held) reset(t *testing.T) {
	t.Helper()
	h.Reset()
	h.came = nil
	is(t, h.Counter, h.height, 0)
}

// times is a list of one value, again and again.
func times(v int64, many int) []int64 {
	return slices.Repeat([]int64{v}, many)
}

// turns are so many values, of which the first, the third .. are one value, and the others another one.
func turns(first, second int64, many int) []int64 {
	return slices.Repeat([]int64{first, second}, (many+1)/2)[:many]
}

// heights are some that may be.
func heights() []int64 {
	return []int64{1, 2, 5, 10, 200, 32767, 32768, 65535, 65536, 142846, 142847}
}

// ends are numbers at which something changes: signs, and the ends of ranges of bits, among them those whose lower bits are those of small numbers.
func ends() []int64 {
	l := []int64{0, 1, 2, 5, 199, 200, 201, 142846, 142847, 142848}
	for _, k := range []int{15, 16, 17, 31, 32, 47, 48, 61, 62} {
		l = append(l, 1<<k-1, 1<<k, 1<<k+1, 1<<k+777)
	}
	l = append(l, most-1, most)
	for _, v := range l {
		l = append(l, -v)
	}
	return append(l, least, least+1, least+777)
}

// noise hands out numbers of all kinds, the same ones each time.
type noise uint64

// upTo is the next number, from 0 up to n - 1.
func (x *noise) upTo(n int) int {
	if *x == 0 {
		*x = 88172645463325252
	}
	*x ^= *x << 13
	*x ^= *x >> 7
	*x ^= *x << 17
	return int(uint64(*x) >> 11 % uint64(n))
}

// near is a number at most so far from 0, of either sign.
func (x *noise) near(far int) int64 {
	return int64(x.upTo(2*far+1) - far)
}

// whole is a number of 64 bits, of any size and sign.
func (x *noise) whole() int64 {
	return int64(x.upTo(most)<<1+x.upTo(2)) >> x.upTo(64)
}

// kinds are how many kinds of rows there are: close to the height, at either side of it by turns, seldom below it, seldom above it, of any size, and all of these mixed.
const (
	kinds = 6
	mixed = kinds - 1
)

// value is a value of a kind, as a height sees it.
func (x *noise) value(kind int, height int64) int64 {
	switch kind {
	case 0:
		return height + x.near(2)
	case 1:
		return height - int64(x.upTo(2))
	case 2:
		return height + x.near(900) + 890
	case 3:
		return height + x.near(900) - 890
	case 4:
		return x.whole()
	}
	return x.value(x.upTo(mixed), height)
}

// row is so many values of one kind.
func (x *noise) row(kind int, height int64, many int) []int64 {
	var l []int64
	for range many {
		l = append(l, x.value(kind, height))
	}
	return l
}

// height is one that may be.
func (x *noise) height() int64 {
	return heights()[x.upTo(len(heights()))]
}
