package window_test

import (
	"slices"
	"testing"

	"systole/window"
)

// The chapter's example.
func TestExample(t *testing.T) {
	row := append([]int64{32}, times(0, 35)...)
	want := append(times(1, 30), times(0, 6)...)
	answers(t, made(t), row, want...)
	x := made(t)
	for i, v := range row {
		if got := x.Push(v); got != want[i] || x.Last() != want[i] {
			t.Errorf("Push, at %d: %d, and Last %d; want %d", i, got, x.Last(), want[i])
		}
	}
}

// P14.1: nothing came to a new window, whichever call is the first one.
func TestNew(t *testing.T) {
	lastIs(t, made(t), 0)
	for _, v := range edges() {
		heldOf(t).push(t, v)
		heldOf(t).block(t, v)
		heldOf(t).block(t, slices.Concat([]int64{v}, times(0, 31), []int64{v, v})...)
		h := heldOf(t)
		h.reset(t)
		h.push(t, v)
		h = heldOf(t)
		lastIs(t, h.Window, 0)
		h.push(t, v)
	}
	heldOf(t).block(t)
	h := heldOf(t)
	h.reset(t)
	h.reset(t)
	h.block(t)
	h.block(t, -90000, 300, -7, 0, 40, 0, 0)
}

// P14.1: each call of a window that no call made, that is nil: nothing is done, and it stays so.
func TestNil(t *testing.T) {
	var x *window.Window
	lastIs(t, x, 0)
	for range 2 {
		for _, v := range edges() {
			if got := x.Push(v); got != 0 {
				t.Errorf("Push(%d) of nil: %d", v, got)
			}
			if got := x.Block(v, v); len(got) != 0 {
				t.Errorf("Block of nil: %v", got)
			}
			lastIs(t, x, 0)
		}
		if got := x.Block(); len(got) != 0 {
			t.Errorf("Block of no value of nil: %v", got)
		}
		x.Reset()
		lastIs(t, x, 0)
		if x != nil {
			t.Error("it is not nil any more")
		}
	}
}

// P14.1: a single value above 0, behind and ahead of zeros: it counts for thirty steps, and then no more; written out.
func TestLone(t *testing.T) {
	for _, c := range []struct {
		v, want int64
	}{
		{1, 0}, {31, 0}, {32, 1}, {33, 1}, {63, 1}, {64, 2}, {1000, 31}, {5000, 156},
		{clamp - 1, 2097151}, {clamp, 2097152}, {clamp + 1, 2097152}, {most, 2097152}, {-1, 0}, {-32, 0}, {least, 0},
	} {
		for ahead := range 33 {
			for _, behind := range []int{0, 1, 2, 15, 29, 30, 31, 32} {
				row := slices.Concat(times(0, ahead), []int64{c.v}, times(0, 29+behind))
				want := slices.Concat(times(0, ahead), times(c.want, 30), times(0, behind))
				answers(t, made(t), row, want...)
			}
		}
	}
}

// P14.1: two values, so many steps apart: where both are among the last thirty, and only there, they come to more than each alone; written out.
func TestApart(t *testing.T) {
	for _, c := range []struct {
		v, w, alone, both, behind int64
	}{
		{1, 31, 0, 1, 0}, {31, 1, 0, 1, 0}, {16, 16, 0, 1, 0}, {15, 16, 0, 0, 0},
		{32, 32, 1, 2, 1}, {63, 1, 1, 2, 0}, {1, 63, 0, 2, 1}, {clamp - 1, 1, 2097151, 2097152, 0},
		{clamp, clamp, 2097152, 4194304, 2097152}, {most, 32, 2097152, 2097153, 1}, {least, 32, 0, 1, 1}, {32, -32, 1, 1, 0},
	} {
		for apart := 1; apart < 30; apart++ {
			row := slices.Concat([]int64{c.v}, times(0, apart-1), []int64{c.w}, times(0, 30))
			want := slices.Concat(times(c.alone, apart), times(c.both, 30-apart), times(c.behind, apart), []int64{0})
			answers(t, made(t), row, want...)
		}
		answers(t, made(t), slices.Concat([]int64{c.v}, times(0, 29), []int64{c.w}, times(0, 30)),
			slices.Concat(times(c.alone, 30), times(c.behind, 30), []int64{0})...)
	}
}

// P14.1: values below 0, 0 and 1, at, just within and just beyond Clamp, and at the ends of the range of 64 bits, ahead of one by which a floor shows what they count as: with it, as long as they are among the last thirty, and it alone; written out.
func TestNearest(t *testing.T) {
	for _, c := range []struct {
		v, w, now, with, alone int64
	}{
		{-2, 32, 0, 1, 1}, {-1, 32, 0, 1, 1}, {-1, 31, 0, 0, 0}, {0, 31, 0, 0, 0}, {0, 32, 0, 1, 1},
		{1, 30, 0, 0, 0}, {1, 31, 0, 1, 0}, {2, 30, 0, 1, 0},
		{clamp - 32, 0, 2097151, 2097151, 0}, {clamp - 33, 0, 2097150, 2097150, 0},
		{clamp - 2, 1, 2097151, 2097151, 0}, {clamp - 1, 0, 2097151, 2097151, 0}, {clamp - 1, 1, 2097151, 2097152, 0},
		{clamp - 1, 32, 2097151, 2097152, 1}, {clamp, 31, 2097152, 2097152, 0}, {clamp, 32, 2097152, 2097153, 1},
		{clamp + 1, 31, 2097152, 2097152, 0}, {clamp + 31, 31, 2097152, 2097152, 0}, {clamp + 32, 31, 2097152, 2097152, 0},
		{2 * clamp, 31, 2097152, 2097152, 0}, {1<<32 + 5, 31, 2097152, 2097152, 0}, {-1<<32 + 5, 32, 0, 1, 1},
		{1 << 59, 31, 2097152, 2097152, 0}, {-1 << 59, 32, 0, 1, 1}, {1 << 62, 31, 2097152, 2097152, 0}, {-1 << 62, 32, 0, 1, 1},
		{most, 31, 2097152, 2097152, 0}, {most - 1, 31, 2097152, 2097152, 0}, {least, 32, 0, 1, 1}, {least + 1, 32, 0, 1, 1},
		{-clamp, 32, 0, 1, 1}, {-clamp - 1, 32, 0, 1, 1},
	} {
		answers(t, made(t), slices.Concat([]int64{c.v, c.w}, times(0, 30)),
			slices.Concat([]int64{c.now}, times(c.with, 29), []int64{c.alone, 0})...)
	}
}

// P14.1: what came beyond the bounds counts as the bound in the steps behind it, too: each edge with each other one.
func TestEdges(t *testing.T) {
	for _, a := range edges() {
		for _, b := range edges() {
			heldOf(t).block(t, slices.Concat([]int64{a, b, 0, a, a, b, b, 1, -1, 0, b, a}, times(0, 32))...)
		}
	}
}

// P14.1: floors of sums that leave a rest: written out.
func TestFloors(t *testing.T) {
	for _, c := range []struct {
		row, want []int64
	}{
		{times(1, 40), times(0, 40)},
		{times(2, 40), append(times(0, 15), times(1, 25)...)},
		{times(-1, 40), times(0, 40)},
		{times(10, 35), []int64{0, 0, 0, 1, 1, 1, 2, 2, 2, 3, 3, 3, 4, 4, 4, 5, 5, 5, 5, 6, 6, 6, 7, 7, 7, 8, 8, 8, 9, 9, 9, 9, 9, 9, 9}},
		{times(31, 32), []int64{0, 1, 2, 3, 4, 5, 6, 7, 8, 9, 10, 11, 12, 13, 14, 15, 16, 17, 18, 19, 20, 21, 22, 23, 24, 25, 26, 27, 28, 29, 29, 29}},
		{times(33, 32), []int64{1, 2, 3, 4, 5, 6, 7, 8, 9, 10, 11, 12, 13, 14, 15, 16, 17, 18, 19, 20, 21, 22, 23, 24, 25, 26, 27, 28, 29, 30, 30, 30}},
		{append([]int64{32, 31, 1}, times(0, 30)...), slices.Concat([]int64{1, 1}, times(2, 28), []int64{1, 0, 0})},
		{append([]int64{40, -40, 24, -1}, times(0, 29)...), slices.Concat([]int64{1, 1}, times(2, 28), []int64{0, 0, 0})},
	} {
		answers(t, made(t), c.row, c.want...)
	}
}

// P14.1: pairs of values near 0, at each distance up to 31, so that rests of all kinds come with each step.
func TestSmall(t *testing.T) {
	small := []int64{-65, -33, -32, -31, -1, 0, 1, 2, 15, 16, 17, 30, 31, 32, 33, 63, 64, 65}
	for distance := 1; distance <= 31; distance++ {
		for _, a := range small {
			for _, b := range small {
				row := make([]int64, distance+31)
				row[0], row[distance] = a, b
				heldOf(t).block(t, row...)
			}
		}
	}
}

// P14.1: a Block of none, of one, and of many.
func TestBlock(t *testing.T) {
	h := heldOf(t)
	h.block(t)
	h.block(t, []int64{}...)
	h.block(t, 90)
	h.block(t)
	h.block(t, 800, 70, -6, 500, 4, 3)
	h.block(t)
	h.block(t, 1000)
	h.block(t, slices.Repeat([]int64{11, -12, 130, 90000000, 7}, 500)...)
	h.block(t)
	h.block(t, -1)
}

// P14.1: Last is what the last Push answered, be it by itself or within a Block; a Block of no value leaves it as it was; written out.
func TestLast(t *testing.T) {
	x := made(t)
	lastIs(t, x, 0)
	if got := x.Push(320); got != 10 {
		t.Fatalf("Push: %d", got)
	}
	lastIs(t, x, 10)
	answers(t, x, []int64{64, 32, 33}, 12, 13, 14)
	lastIs(t, x, 14)
	answers(t, x, nil)
	lastIs(t, x, 14)
	answers(t, x, []int64{-5}, 14)
	lastIs(t, x, 14)
	answers(t, x, []int64{31}, 15)
	lastIs(t, x, 15)
	// Six came; so the first one goes behind 24 more.
	answers(t, x, times(0, 24), times(15, 24)...)
	lastIs(t, x, 15)
	if got := x.Push(0); got != 5 {
		t.Fatalf("Push behind thirty: %d", got)
	}
	lastIs(t, x, 5)
	x.Reset()
	lastIs(t, x, 0)
	x.Block()
	lastIs(t, x, 0)
	if got := x.Push(32); got != 1 {
		t.Fatalf("Push behind Reset: %d", got)
	}
	lastIs(t, x, 1)
}

// P14.1: to be asked for Last does nothing: with it and without, all answers are the same.
func TestLastDoesNothing(t *testing.T) {
	for _, row := range rows() {
		whole := made(t).Block(row...)
		x := made(t)
		for i, v := range row {
			if got := x.Push(v); got != whole[i] {
				t.Fatalf("Push(%d), at %d: %d; want %d", v, i, got, whole[i])
			}
			for range i % 3 {
				lastIs(t, x, whole[i])
			}
		}
	}
}

// P14.1: long rows of each kind, all at once.
func TestRows(t *testing.T) {
	for _, row := range rows() {
		heldOf(t).block(t, row...)
	}
}

// P14.1: the same values in pieces of all lengths, none among them, come to the same as in one Block.
func TestPieces(t *testing.T) {
	var x noise
	for _, row := range rows() {
		whole := made(t).Block(row...)
		for _, far := range []int{1, 2, 4, 15, 29, 30, 31, 300} {
			one := made(t)
			last := int64(0)
			for at := 0; at < len(row); {
				to := min(len(row), at+x.upTo(far+1))
				answers(t, one, row[at:to], whole[at:to]...)
				if to > at {
					last = whole[to-1]
				}
				lastIs(t, one, last)
				at = to
			}
		}
	}
}

// P14.1: value by value, by Push, by Block of one, and by both in turn, it is the same.
func TestValueByValue(t *testing.T) {
	for _, row := range rows() {
		whole := made(t).Block(row...)
		pushed, blocks, both := made(t), made(t), made(t)
		for i, v := range row {
			if got := pushed.Push(v); got != whole[i] {
				t.Fatalf("Push(%d), at %d: %d; in one Block %d", v, i, got, whole[i])
			}
			answers(t, blocks, row[i:i+1], whole[i])
			if i%2 == 0 {
				answers(t, both, row[i:i+1], whole[i])
			} else if got := both.Push(v); got != whole[i] {
				t.Fatalf("Push(%d) behind Block, at %d: %d; in one Block %d", v, i, got, whole[i])
			}
			lastIs(t, both, whole[i])
		}
	}
}

// P14.1: each way to cut a short row.
func TestEachCut(t *testing.T) {
	row := []int64{400, -3, most, 0, least, 700, 7, 1, clamp, 33, 0, 90}
	for cuts := range 1 << (len(row) - 1) {
		h := heldOf(t)
		from := 0
		for i := range row {
			if i == len(row)-1 || cuts>>i&1 == 1 {
				h.block(t, row[from:i+1]...)
				h.block(t)
				from = i + 1
			}
		}
	}
}

// P14.1: behind Reset it is as if nothing had come, however much had.
func TestReset(t *testing.T) {
	var x noise
	h := heldOf(t)
	for many := range 65 {
		for _, first := range []int64{0, 1, -1, clamp, least, most} {
			h.reset(t)
			h.block(t, x.row(2, many)...)
			h.reset(t)
			h.push(t, first)
			h.block(t, slices.Concat(times(0, 14), []int64{-500, 600}, times(0, 16))...)
		}
	}
	for range 300 {
		h.reset(t)
		h.block(t, x.row(mixed, x.upTo(70))...)
		if x.upTo(3) == 0 {
			h.reset(t)
		}
		h.push(t, x.square())
	}
}
