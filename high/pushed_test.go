package high_test

import (
	"slices"
	"testing"

	"systole/high"
)

// times is a value so many times.
func times(v int64, many int) []int64 {
	return slices.Repeat([]int64{v}, many)
}

// around is a row of 32 in which one value, the 17th, is another one than all the rest.
func around(rest, one int64) []int64 {
	return slices.Concat(times(rest, 16), []int64{one}, times(rest, 15))
}

// The chapter's example.
func TestExample(t *testing.T) {
	row := slices.Concat([]int64{32}, times(0, 33))
	want := slices.Concat([]int64{-1}, times(-1, 15), []int64{31}, times(-1, 15), []int64{0, 0})
	answers(t, made(t), row, want...)
	x := made(t)
	for i, v := range row {
		if got := x.Push(v); got != want[i] {
			t.Errorf("Push, at %d: %d; want %d", i, got, want[i])
		}
	}
}

// P12.1: nothing came to a new filter, whichever call is the first one.
func TestNew(t *testing.T) {
	for _, v := range edges() {
		heldOf(t).push(t, v)
		heldOf(t).block(t, v)
		heldOf(t).block(t, slices.Concat([]int64{v}, times(0, 33), []int64{v})...)
	}
	heldOf(t).block(t)
	h := heldOf(t)
	h.reset()
	h.reset()
	h.block(t, slices.Concat([]int64{-40000, 3, -7}, times(0, 35))...)
}

// P12.1: each call of a filter that no call made, that is nil: nothing is done, and it stays so.
func TestNil(t *testing.T) {
	var x *high.High
	for range 2 {
		for _, v := range edges() {
			if got := x.Push(v); got != 0 {
				t.Errorf("Push(%d) of nil: %d", v, got)
			}
			if got := x.Block(v, v); len(got) != 0 {
				t.Errorf("Block of nil: %v", got)
			}
		}
		if got := x.Block(); len(got) != 0 {
			t.Errorf("Block of no value of nil: %v", got)
		}
		x.Reset()
		if x != nil {
			t.Error("it is not nil any more")
		}
	}
}

// P12.1: a single value that is not 0, of either sign, behind and ahead of zeros, so that each of the 32 steps is seen: what it comes to in the middle is written out, and what at each other step.
func TestLone(t *testing.T) {
	for _, c := range []struct {
		v, middle, rest int64
	}{
		{1, 0, -1}, {-1, -1, 0},
		{2, 1, -1}, {-2, -2, 0},
		{31, 30, -1}, {-31, -31, 0},
		{32, 31, -1}, {-32, -31, 1},
		{33, 31, -2}, {-33, -32, 1},
		{64, 62, -2}, {-64, -62, 2},
		{100, 96, -4}, {-100, -97, 3},
		{1000, 968, -32}, {-1000, -969, 31},
		{bound, 71423, -2304}, {-bound, -71424, 2303},
		{most, 71423, -2304}, {least, -71424, 2303},
	} {
		for ahead := range 35 {
			for _, behind := range []int{0, 1, 2, 15, 16, 17, 31, 32, 33, 34} {
				row := slices.Concat(times(0, ahead), []int64{c.v}, times(0, 31+behind))
				want := slices.Concat(times(0, ahead), around(c.rest, c.middle), times(0, behind))
				answers(t, made(t), row, want...)
			}
		}
	}
}

// P12.1: values just within the bounds, at them and just beyond, and at the ends of the range of 64 bits: sixteen steps ago, and at once, written out.
func TestNearest(t *testing.T) {
	for _, c := range []struct {
		v, middle, rest int64
	}{
		{73696, 71393, -2303}, {73697, 71393, -2304}, {73725, 71421, -2304}, {73726, 71422, -2304},
		{73727, 71423, -2304}, {73728, 71423, -2304}, {73729, 71423, -2304}, {80000, 71423, -2304},
		{-73696, -71393, 2303}, {-73697, -71394, 2303}, {-73725, -71422, 2303}, {-73726, -71423, 2303},
		{-73727, -71424, 2303}, {-73728, -71424, 2303}, {-73729, -71424, 2303}, {-80000, -71424, 2303},
		{1<<32 + 5, 71423, -2304}, {-1<<32 - 5, -71424, 2303}, {1 << 48, 71423, -2304}, {-1 << 48, -71424, 2303},
		{1 << 59, 71423, -2304}, {-1 << 59, -71424, 2303}, {1 << 62, 71423, -2304}, {-1 << 62, -71424, 2303},
		{most, 71423, -2304}, {most - 1, 71423, -2304}, {least, -71424, 2303}, {least + 1, -71424, 2303},
	} {
		answers(t, made(t), slices.Concat([]int64{c.v}, times(0, 32)), append(around(c.rest, c.middle), 0)...)
	}
	// Of two signs one takes the other one back: just so far as it counts.
	answers(t, made(t), slices.Concat([]int64{most, least}, times(0, 32)),
		slices.Concat([]int64{-2304}, times(0, 15), []int64{73727, -73727}, times(0, 14), []int64{2303, 0})...)
}

// P12.1: what came beyond the bounds counts as the bound in the steps behind it, too: each edge with each other one.
func TestEdges(t *testing.T) {
	for _, a := range edges() {
		for _, b := range edges() {
			heldOf(t).block(t, slices.Concat([]int64{a, b, 0, a, a, b, b, 1, -1, 0, b, a}, times(0, 34))...)
		}
	}
}

// P12.1: floors of sums that leave a rest, below 0 and above: written out.
func TestFloors(t *testing.T) {
	for _, c := range []struct {
		row, want []int64
	}{
		{times(1, 33), slices.Concat(times(-1, 16), times(0, 17))},
		{times(-1, 33), slices.Concat(times(0, 16), times(-1, 15), times(0, 2))},
		{times(3, 33), slices.Concat(times(-1, 10), times(-2, 6), times(1, 5), times(0, 12))},
		{times(-3, 33), slices.Concat(times(0, 10), times(1, 6), times(-2, 5), times(-1, 10), times(0, 2))},
		{slices.Concat([]int64{31, 2}, times(0, 32)), slices.Concat([]int64{-1}, times(-2, 15), []int64{29, 0}, times(-2, 14), []int64{-1, 0})},
		{slices.Concat([]int64{-31, -2}, times(0, 32)), slices.Concat([]int64{0}, times(1, 15), []int64{-30, -1}, times(1, 14), []int64{0, 0})},
		{slices.Concat([]int64{-15, -16}, times(0, 32)), slices.Concat(times(0, 16), []int64{-15, -16}, times(0, 16))},
		{slices.Concat([]int64{-16, -16}, times(0, 32)), slices.Concat([]int64{0}, times(1, 15), []int64{-15, -15}, times(1, 14), []int64{0, 0})},
		{slices.Concat([]int64{-17, 49}, times(0, 32)), slices.Concat([]int64{0}, times(-1, 15), []int64{-18, 48}, times(-1, 14), []int64{-2, 0})},
	} {
		answers(t, made(t), c.row, c.want...)
	}
}

// P12.1: pairs of values near 0, at each distance from 1 to 32, so that rests of all kinds come with each step.
func TestSmall(t *testing.T) {
	small := []int64{-65, -64, -63, -33, -32, -31, -17, -16, -15, -2, -1, 0, 1, 2, 15, 16, 17, 31, 32, 33, 63, 64, 65}
	for distance := 1; distance <= 32; distance++ {
		for _, a := range small {
			for _, b := range small {
				row := make([]int64, distance+33)
				row[0], row[distance] = a, b
				heldOf(t).block(t, row...)
			}
		}
	}
}

// P12.1: a Block of none, of one, and of many.
func TestBlock(t *testing.T) {
	h := heldOf(t)
	h.block(t)
	h.block(t, []int64{}...)
	h.block(t, -9)
	h.block(t)
	h.block(t, 8, 7, -6, 5, 4, 3)
	h.block(t)
	h.block(t, 1000)
	h.block(t, slices.Repeat([]int64{11, -12, 13, 40000, -7}, 500)...)
	h.block(t)
	h.block(t, -1)
}

// P12.1: long rows of each kind, all at once.
func TestRows(t *testing.T) {
	for _, row := range rows() {
		heldOf(t).block(t, row...)
	}
}

// P12.1: the same values in pieces of all lengths, none among them, come to the same as in one Block.
func TestPieces(t *testing.T) {
	var x noise
	for _, row := range rows() {
		whole := made(t).Block(row...)
		for _, far := range []int{1, 2, 4, 16, 17, 32, 33, 300} {
			one := made(t)
			for at := 0; at < len(row); {
				to := min(len(row), at+x.upTo(far+1))
				answers(t, one, row[at:to], whole[at:to]...)
				at = to
			}
		}
	}
}

// P12.1: value by value, by Push, by Block of one, and by both in turn, it is the same.
func TestValueByValue(t *testing.T) {
	for _, row := range rows() {
		whole := made(t).Block(row...)
		pushed, blocks, both := made(t), made(t), made(t)
		for i, v := range row {
			if got := pushed.Push(v); got != whole[i] {
				t.Fatalf("Push(%d), at %d: %d; in one Block %d", v, i, got, whole[i])
			}
			answers(t, blocks, row[i:i+1], whole[i])
			if i%2 == 0 {
				answers(t, both, row[i:i+1], whole[i])
			} else if got := both.Push(v); got != whole[i] {
				t.Fatalf("Push(%d) behind Block, at %d: %d; in one Block %d", v, i, got, whole[i])
			}
		}
	}
}

// P12.1: each way to cut a short row, behind so many values that each step is met.
func TestEachCut(t *testing.T) {
	var x noise
	ahead := x.row(1, 25)
	row := []int64{4, -3, most, 0, least, 700, 7, 1, -bound, 33, 0, -1}
	for cuts := range 1 << (len(row) - 1) {
		h := heldOf(t)
		h.block(t, ahead...)
		from := 0
		for i := range row {
			if i == len(row)-1 || cuts>>i&1 == 1 {
				h.block(t, row[from:i+1]...)
				h.block(t)
				from = i + 1
			}
		}
	}
}

// P12.1: behind Reset it is as if nothing had come, however much had.
func TestReset(t *testing.T) {
	var x noise
	h := heldOf(t)
	for many := range 70 {
		for _, first := range []int64{0, 1, -1, bound, least} {
			h.reset()
			h.block(t, x.row(3, many)...)
			h.reset()
			h.push(t, first)
			h.block(t, slices.Concat([]int64{0, 0, 0, -500, 600}, times(0, 33))...)
		}
	}
	for range 300 {
		h.reset()
		h.block(t, x.row(4, x.upTo(100))...)
		if x.upTo(3) == 0 {
			h.reset()
		}
		h.push(t, x.near(80000))
	}
}
