package fib_test

import (
	"slices"
	"testing"
)

// P21.1: the first value has none ahead, and is no crossing: below the height, at it, above it, and of any size.
func TestFirst(t *testing.T) {
	for _, height := range heights() {
		for _, v := range append(ends(), height-2, height-1, height, height+1, height+2) {
			c := of(t, height)
			comes(t, c, 0, v)
			is(t, c, height, 0)
			comes(t, c, 0, v)
			c.Reset()
			comes(t, c, 0, v)
			comes(t, of(t, height), 0, v, v)
		}
	}
}

// P21.1: values just below the height, at it, and just above it, one behind the other, in each order; written out.
func TestEachOrder(t *testing.T) {
	for _, c := range []struct {
		by   []int64
		want int64
	}{
		{[]int64{-1, -1}, 0}, {[]int64{-1, 0}, 1}, {[]int64{-1, 1}, 1},
		{[]int64{0, -1}, 0}, {[]int64{0, 0}, 0}, {[]int64{0, 1}, 0},
		{[]int64{1, -1}, 0}, {[]int64{1, 0}, 0}, {[]int64{1, 1}, 0},
		{[]int64{-1, 0, 1}, 1}, {[]int64{-1, 1, 0}, 1}, {[]int64{0, -1, 1}, 1}, {[]int64{0, 1, -1}, 0}, {[]int64{1, -1, 0}, 1}, {[]int64{1, 0, -1}, 0},
		{[]int64{-1, 0, -1}, 1}, {[]int64{-1, 1, -1}, 1}, {[]int64{0, -1, 0}, 1}, {[]int64{1, -1, 1}, 1}, {[]int64{-1, -1, 0}, 1}, {[]int64{-1, -1, 1}, 1}, {[]int64{-1, 0, 0}, 1}, {[]int64{-1, 1, 1}, 1},
		{[]int64{-1, 0, -1, 0}, 2}, {[]int64{-1, 1, -1, 1}, 2}, {[]int64{-1, 0, -1, 1}, 2}, {[]int64{-1, 1, 0, 1}, 1}, {[]int64{1, -1, -1, 0, 0, -1, 1, 0, 1, -1}, 2},
	} {
		for _, height := range heights() {
			l := make([]int64, len(c.by))
			for i, by := range c.by {
				l[i] = height + by
			}
			one := of(t, height)
			comes(t, one, c.want, l...)
			is(t, one, height, c.want)
		}
	}
}

// P21.1: each row of up to 7 values that are just below the height, at it, or just above it, value by value.
func TestEachRow(t *testing.T) {
	for code := range 3 * 3 * 3 * 3 * 3 * 3 * 3 {
		h := heldOf(t, 5)
		for rest, many := code, 0; many < 7; many++ {
			h.push(t, 4+int64(rest%3))
			rest /= 3
		}
	}
}

// P21.1: each height is the one at which it counts, and no other: one below it is below, at it is not.
func TestEachHeight(t *testing.T) {
	for height := int64(1); height <= highest; height += 61 {
		c := of(t, height)
		comes(t, c, 0, height-1, height-1)
		comes(t, c, 1, height)
		comes(t, c, 1, height, height+1, height)
		comes(t, c, 2, height-1, height+1)
	}
}

// P21.1: values of any size: at the ends of the range of 64 bits, below 0, and 0; written out.
func TestAnySize(t *testing.T) {
	for _, height := range heights() {
		for _, c := range []struct {
			l    []int64
			want int64
		}{
			{[]int64{least, most}, 1}, {[]int64{most, least}, 0}, {[]int64{least, least}, 0}, {[]int64{most, most}, 0}, {[]int64{least, most, least, most}, 2},
			{[]int64{0, most}, 1}, {[]int64{-1, most}, 1}, {[]int64{least, 0}, 0}, {[]int64{least, -1, 0}, 0}, {[]int64{0, least, 0, -1, 0}, 0},
			{[]int64{least, height}, 1}, {[]int64{least, height - 1}, 0}, {[]int64{height - 1, most}, 1}, {[]int64{height, most}, 0}, {[]int64{height, least}, 0},
			{[]int64{-height, height}, 1}, {[]int64{-height, -height - 1, -height}, 0}, {[]int64{-height - 1, height + 1, -height, height}, 2}, {[]int64{-height, 0, -most}, 0},
			{[]int64{0, 1 << 32}, 1}, {[]int64{0, 1 << 31}, 1}, {[]int64{0, 1<<62 + 1}, 1}, {[]int64{1 << 32, height}, 0}, {[]int64{1 << 48, most}, 0}, {[]int64{0, -1<<32 + height}, 0}, {[]int64{-1<<32 + height, height}, 1}, {[]int64{least + height, height}, 1},
			{[]int64{0, 142847}, 1}, {[]int64{0, 142848}, 1}, {[]int64{-142847, 142847, -142848, 142848}, 2}, {[]int64{142848, 142847, 142848}, 0},
		} {
			one := of(t, height)
			comes(t, one, c.want, c.l...)
			is(t, one, height, c.want)
		}
	}
}

// P21.1: each such value behind each other one, and among others.
func TestEnds(t *testing.T) {
	for _, height := range []int64{1, 200, 142847} {
		for _, a := range ends() {
			for _, b := range ends() {
				h := heldOf(t, height)
				h.push(t, a, b)
				h.push(t, b, a, a, 0)
				h.push(t, b)
				h.push(t, height)
				h.push(t, a)
			}
		}
	}
}

// P21.1: Push without a value is the count as it was, and plays no part in what comes behind it, wherever it stands.
func TestPushNone(t *testing.T) {
	for _, height := range []int64{1, 5, 142847} {
		for _, ahead := range states(height) {
			h := heldOf(t, height)
			h.push(t, ahead...)
			for range 3 {
				h.push(t)
				h.push(t, nil...)
				h.push(t, []int64{}...)
			}
			h.push(t, height)
			h.push(t)
			h.push(t, height-1)
			h.push(t)
			h.push(t, height+1)
		}
	}
	c := of(t, 5)
	comes(t, c, 0, 4)
	comes(t, c, 0)
	comes(t, c, 1, 5)
	for range 500 {
		comes(t, c, 1)
	}
	comes(t, c, 2, 4, 5)
}

// P21.1: Push of one value, and of many in one call, is the count behind the last one; written out.
func TestPush(t *testing.T) {
	c := of(t, 10)
	for i, v := range []int64{3, 10, 12, 9, 9, 10, -4, 500, 10, 9, 10, 9} {
		comes(t, c, []int64{0, 1, 1, 1, 1, 2, 2, 3, 3, 3, 4, 4}[i], v)
		is(t, c, 10, []int64{0, 1, 1, 1, 1, 2, 2, 3, 3, 3, 4, 4}[i])
	}
	comes(t, of(t, 10), 4, 3, 10, 12, 9, 9, 10, -4, 500, 10, 9, 10, 9)
	comes(t, c, 7, 10, 9, 10, 9, 10)
	// At most 400 values count, however many came in one call: here the first crossing is the 401st from behind.
	comes(t, of(t, 10), 1, slices.Concat([]int64{0, 10}, times(10, 399))...)
	comes(t, of(t, 10), 0, slices.Concat([]int64{0, 10}, times(10, 400))...)
	comes(t, of(t, 10), 200, turns(0, 10, 70000)...)
}

// P21.1: the same values in one call, one by one, and in calls of two parts, wherever they are parted, come to the same.
func TestPieces(t *testing.T) {
	var x noise
	for kind := range kinds {
		for _, many := range []int{0, 1, 2, 3, 20, 60} {
			height := x.height()
			l := x.row(kind, height, many)
			heldOf(t, height).push(t, l...)
			h := heldOf(t, height)
			for _, v := range l {
				h.push(t, v)
			}
			for at := range many + 1 {
				h = heldOf(t, height)
				h.push(t, l[:at]...)
				h.push(t, l[at:]...)
			}
		}
	}
}

// P21.1: likewise of rows that are longer than 400, parted just ahead of a crossing, just behind it, and everywhere else.
func TestLongPieces(t *testing.T) {
	var x noise
	for _, l := range [][]int64{x.row(0, 5, 900), x.row(1, 5, 801), turns(4, 5, 900), turns(5, 4, 805), slices.Concat(times(4, 300), times(5, 400), times(4, 3)), slices.Concat(times(4, 2), []int64{5}, times(4, 398), []int64{5, 5})} {
		want := countOf(5, l)
		for at := range len(l) + 1 {
			c := of(t, 5)
			comes(t, c, countOf(5, l[:at]), l[:at]...)
			comes(t, c, want, l[at:]...)
		}
	}
}

// P21.1: each way to cut a short row, with a crossing at many of the cuts.
func TestEachCut(t *testing.T) {
	row := []int64{4, 5, 4, 6, 5, 0, most, least, 4, 5, -5, 7}
	for cuts := range 1 << (len(row) - 1) {
		h := heldOf(t, 5)
		from := 0
		for i := range row {
			if i == len(row)-1 || cuts>>i&1 == 1 {
				h.push(t, row[from:i+1]...)
				from = i + 1
			}
		}
		is(t, h.Counter, 5, 5)
	}
}

// P21.1: a crossing that is the last value, the 399th, the 400th, and the 401st from behind: it counts as the 400th still, and as the 401st no more; whatever comes behind it.
func TestLastOfTheWindow(t *testing.T) {
	for _, behind := range []int64{4, 5, 6} {
		for _, ahead := range [][]int64{{4}, {6, 4}, times(4, 500), turns(6, 6, 500), {least}} {
			c := of(t, 5)
			c.Push(ahead...)
			// The one ahead is below the height, at least now.
			comes(t, c, 0, 4)
			comes(t, c, 1, 5)
			comes(t, c, 1, times(behind, 398)...) // the 399th from behind
			comes(t, c, 1, behind)                // the 400th, while its value ahead is the 401st
			comes(t, c, 0, behind)                // the 401st
			comes(t, c, 0, behind)
		}
	}
}

// P21.1: one crossing at each place from behind, of rows that are shorter than 400 values, as long, and longer.
func TestEachPlace(t *testing.T) {
	for _, ahead := range []int{1, 2, 399, 400, 401, 1000} {
		h := of(t, 200)
		h.Push(times(-7, ahead)...)
		for place := 1; place < 1000; place++ {
			want := int64(0)
			if place <= 400 {
				want = 1
			}
			comes(t, h, want, 300)
		}
	}
}

// P21.1: of two crossings each goes by itself, however far they are apart.
func TestTwoCrossings(t *testing.T) {
	for apart := 2; apart < 410; apart++ {
		c := of(t, 5)
		comes(t, c, 1, 4, 5)
		c.Push(times(4, apart-1)...)
		want := int64(2)
		if apart >= 400 {
			want = 1
		}
		comes(t, c, want, 5)
		for place := 2; place < 410; place++ {
			want = 1
			if place+apart <= 400 {
				want = 2
			}
			if place > 400 {
				want = 0
			}
			comes(t, c, want, 5)
		}
	}
}

// P21.1: two counters, of unlike heights, know nothing of each other.
func TestTwo(t *testing.T) {
	var x noise
	one, other := heldOf(t, 5), heldOf(t, 200)
	for range 1500 {
		one.push(t, x.row(x.upTo(kinds), 5, x.upTo(20))...)
		other.look(t)
		other.push(t, x.row(x.upTo(kinds), 200, x.upTo(20))...)
		one.look(t)
		if x.upTo(100) == 0 {
			other.reset(t)
			one.look(t)
		}
		if x.upTo(150) == 0 {
			one.reset(t)
			other.look(t)
		}
	}
	// Of the same values each counts what crosses its own height.
	one, other = heldOf(t, 5), heldOf(t, 6)
	for _, v := range []int64{4, 5, 6, 5, 4, 6, 5, 6} {
		one.push(t, v)
		other.push(t, v)
	}
	is(t, one.Counter, 5, 2)
	is(t, other.Counter, 6, 3)
}
