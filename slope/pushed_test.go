package slope_test

import (
	"slices"
	"testing"

	"systole/slope"
)

// The chapter's example.
func TestExample(t *testing.T) {
	row := []int64{8, 0, 0, 0, 0, 0}
	want := []int64{2, 1, 0, -1, -2, 0}
	answers(t, made(t), row, want...)
	x := made(t)
	for i, v := range row {
		if got := x.Push(v); got != want[i] {
			t.Errorf("Push, at %d: %d; want %d", i, got, want[i])
		}
	}
}

// P13.1: nothing came to a new filter, whichever call is the first one.
func TestNew(t *testing.T) {
	for _, v := range edges() {
		heldOf(t).push(t, v)
		heldOf(t).block(t, v)
		heldOf(t).block(t, v, 0, 0, 0, 0, 0, v)
		h := heldOf(t)
		h.reset()
		h.push(t, v)
	}
	heldOf(t).block(t)
	h := heldOf(t)
	h.reset()
	h.reset()
	h.block(t, -90000, 3, -7, 0, 0, 0, 0, 0)
}

// P13.1: each call of a filter that no call made, that is nil: nothing is done, and it stays so.
func TestNil(t *testing.T) {
	var x *slope.Slope
	for range 2 {
		for _, v := range edges() {
			if got := x.Push(v); got != 0 {
				t.Errorf("Push(%d) of nil: %d", v, got)
			}
			if got := x.Block(v, v); len(got) != 0 {
				t.Errorf("Block of nil: %v", got)
			}
		}
		if got := x.Block(); len(got) != 0 {
			t.Errorf("Block of no value of nil: %v", got)
		}
		x.Reset()
		if x != nil {
			t.Error("it is not nil any more")
		}
	}
}

// P13.1: a single value that is not 0, of either sign, behind and ahead of zeros, so that each of the five steps is seen: written out.
func TestLone(t *testing.T) {
	for _, c := range []struct {
		v    int64
		want []int64
	}{
		{1, []int64{0, 0, 0, -1, -1}}, {-1, []int64{-1, -1, 0, 0, 0}},
		{3, []int64{0, 0, 0, -1, -1}}, {-3, []int64{-1, -1, 0, 0, 0}},
		{4, []int64{1, 0, 0, -1, -1}}, {-4, []int64{-1, -1, 0, 0, 1}},
		{5, []int64{1, 0, 0, -1, -2}}, {-5, []int64{-2, -1, 0, 0, 1}},
		{7, []int64{1, 0, 0, -1, -2}}, {-7, []int64{-2, -1, 0, 0, 1}},
		{8, []int64{2, 1, 0, -1, -2}}, {-8, []int64{-2, -1, 0, 1, 2}},
		{9, []int64{2, 1, 0, -2, -3}}, {-9, []int64{-3, -2, 0, 1, 2}},
		{1000, []int64{250, 125, 0, -125, -250}}, {-1000, []int64{-250, -125, 0, 125, 250}},
		{1001, []int64{250, 125, 0, -126, -251}}, {-1001, []int64{-251, -126, 0, 125, 250}},
		{bound, []int64{35711, 17855, 0, -17856, -35712}}, {-bound, []int64{-35712, -17856, 0, 17855, 35711}},
		{most, []int64{35711, 17855, 0, -17856, -35712}}, {least, []int64{-35712, -17856, 0, 17855, 35711}},
	} {
		for ahead := range 8 {
			for behind := range 8 {
				row := slices.Concat(make([]int64, ahead), []int64{c.v}, make([]int64, 4+behind))
				want := slices.Concat(make([]int64, ahead), c.want, make([]int64, behind))
				answers(t, made(t), row, want...)
			}
		}
	}
}

// P13.1: what came two steps ago counts for nothing, whatever stands around it.
func TestTwoStepsAgo(t *testing.T) {
	var x noise
	for range 30 {
		around := x.row(x.upTo(kinds), 4)
		want := comesTo([]int64{around[0], around[1], 0, around[2], around[3]})
		for _, v := range edges() {
			got := made(t).Block(around[0], around[1], v, around[2], around[3])
			if got[4] != want {
				t.Fatalf("%d in the middle of %v: %d; want %d", v, around, got[4], want)
			}
		}
	}
}

// P13.1: values just within the bounds, at them and just beyond, and at the ends of the range of 64 bits, behind one by which a floor shows them: at once, and four steps later, written out.
func TestNearest(t *testing.T) {
	for _, c := range []struct {
		v, ahead, now, late int64
	}{
		{142843, 0, 35710, -35711}, {142844, 0, 35711, -35711}, {142845, 0, 35711, -35712},
		{142846, -2, 35711, -35712}, {142847, -2, 35712, -35712}, {142848, -2, 35712, -35712}, {142849, -2, 35712, -35712},
		{142846, 0, 35711, -35712}, {142847, 0, 35711, -35712}, {142848, 0, 35711, -35712}, {150000, 0, 35711, -35712},
		{-142843, 0, -35711, 35710}, {-142844, 0, -35711, 35711}, {-142845, 0, -35712, 35711},
		{-142846, 3, -35712, 35711}, {-142847, 3, -35713, 35711}, {-142848, 3, -35713, 35711}, {-142849, 3, -35713, 35711},
		{-142846, 1, -35712, 35711}, {-142847, 1, -35712, 35711}, {-142848, 1, -35712, 35711}, {-150000, 1, -35712, 35711},
		{1<<32 + 5, 0, 35711, -35712}, {-1<<32 - 5, 0, -35712, 35711}, {1 << 48, 0, 35711, -35712}, {-1 << 48, 0, -35712, 35711},
		{1 << 60, 0, 35711, -35712}, {-1 << 60, 0, -35712, 35711}, {1 << 62, 0, 35711, -35712}, {-1 << 62, 0, -35712, 35711},
		{most, 0, 35711, -35712}, {most - 1, 0, 35711, -35712}, {least, 0, -35712, 35711}, {least + 1, 0, -35712, 35711},
	} {
		got := made(t).Block(c.ahead, 0, 0, c.v, 0, 0, 0, 0, 0)
		if got[3] != c.now || got[5] != 0 || got[7] != c.late || got[8] != 0 {
			t.Errorf("%d, three steps behind %d: %v; want %d and %d", c.v, c.ahead, got, c.now, c.late)
		}
	}
	// Of two signs, a step apart, one takes half of the other one back: just so far as it counts.
	answers(t, made(t), []int64{most, least, 0, 0, 0, 0}, 35711, -17856, -17856, -17856, -17856, 35711)
	answers(t, made(t), []int64{least, most, 0, 0, 0, 0}, -35712, 17855, 17855, 17855, 17855, -35712)
}

// P13.1: what came beyond the bounds counts as the bound in the steps behind it, too: each edge with each other one.
func TestEdges(t *testing.T) {
	for _, a := range edges() {
		for _, b := range edges() {
			heldOf(t).block(t, a, b, 0, a, a, b, b, 1, -1, 0, b, a, 0, 0, 0, 0, 0)
		}
	}
}

// P13.1: floors of sums that leave a rest, below 0 and above: written out.
func TestFloors(t *testing.T) {
	for _, c := range []struct {
		row, want []int64
	}{
		{[]int64{1, 1, 1, 1, 1, 1, 1}, []int64{0, 0, 0, 0, 0, 0, 0}},
		{[]int64{-1, -1, -1, -1, -1, -1, -1}, []int64{-1, -1, -1, -1, 0, 0, 0}},
		{[]int64{3, 3, 3, 3, 3, 3, 3}, []int64{0, 1, 1, 0, 0, 0, 0}},
		{[]int64{-3, -3, -3, -3, -3, -3, -3}, []int64{-1, -2, -2, -1, 0, 0, 0}},
		{[]int64{4, -1, 0, 0, 0, 0, 0}, []int64{1, 0, -1, -1, -1, 0, 0}},
		{[]int64{-4, 1, 0, 0, 0, 0, 0}, []int64{-1, -1, 0, 0, 0, -1, 0}},
		{[]int64{0, 1, 2, 3, 4, 5, 6}, []int64{0, 0, 0, 1, 1, 1, 1}},
		{[]int64{0, -1, -2, -3, -4, -5, -6}, []int64{0, -1, -1, -1, -2, -2, -2}},
		{[]int64{6, -5, 4, -3, 2, -1, 0}, []int64{1, -1, 0, -1, -1, 0, -1}},
	} {
		answers(t, made(t), c.row, c.want...)
	}
}

// P13.1: each row of five values near 0 comes to what the chapter says, so that rests of all kinds come with all steps.
func TestSmall(t *testing.T) {
	x := made(t)
	for n := range 9 * 9 * 9 * 9 * 9 {
		row := []int64{int64(n%9) - 4, int64(n/9%9) - 4, int64(n/81%9) - 4, int64(n/729%9) - 4, int64(n/6561) - 4}
		x.Reset()
		answers(t, x, row, said(row, 0)...)
	}
}

// P13.1: a Block of none, of one, and of many.
func TestBlock(t *testing.T) {
	h := heldOf(t)
	h.block(t)
	h.block(t, []int64{}...)
	h.block(t, -9)
	h.block(t)
	h.block(t, 8, 7, -6, 5, 4, 3)
	h.block(t)
	h.block(t, 1000)
	h.block(t, slices.Repeat([]int64{11, -12, 13, 90000}, 500)...)
	h.block(t)
	h.block(t, -1)
}

// P13.1: long rows of each kind, all at once.
func TestRows(t *testing.T) {
	for _, row := range rows() {
		heldOf(t).block(t, row...)
	}
}

// P13.1: the same values in pieces of all lengths, none among them, come to the same as in one Block.
func TestPieces(t *testing.T) {
	var x noise
	for _, row := range rows() {
		whole := made(t).Block(row...)
		for _, far := range []int{1, 2, 3, 5, 6, 300} {
			one := made(t)
			for at := 0; at < len(row); {
				to := min(len(row), at+x.upTo(far+1))
				answers(t, one, row[at:to], whole[at:to]...)
				at = to
			}
		}
	}
}

// P13.1: value by value, by Push, by Block of one, and by both in turn, it is the same.
func TestValueByValue(t *testing.T) {
	for _, row := range rows() {
		whole := made(t).Block(row...)
		pushed, blocks, both := made(t), made(t), made(t)
		for i, v := range row {
			if got := pushed.Push(v); got != whole[i] {
				t.Fatalf("Push(%d), at %d: %d; in one Block %d", v, i, got, whole[i])
			}
			answers(t, blocks, row[i:i+1], whole[i])
			if i%2 == 0 {
				answers(t, both, row[i:i+1], whole[i])
			} else if got := both.Push(v); got != whole[i] {
				t.Fatalf("Push(%d) behind Block, at %d: %d; in one Block %d", v, i, got, whole[i])
			}
		}
	}
}

// P13.1: each way to cut a short row.
func TestEachCut(t *testing.T) {
	row := []int64{4, -3, most, 0, least, 700, 7, 1, -bound, 33, 0, -1}
	for cuts := range 1 << (len(row) - 1) {
		h := heldOf(t)
		from := 0
		for i := range row {
			if i == len(row)-1 || cuts>>i&1 == 1 {
				h.block(t, row[from:i+1]...)
				h.block(t)
				from = i + 1
			}
		}
	}
}

// P13.1: behind Reset it is as if nothing had come, however much had.
func TestReset(t *testing.T) {
	var x noise
	h := heldOf(t)
	for many := range 20 {
		for _, first := range []int64{0, 1, -1, bound, least} {
			h.reset()
			h.block(t, x.row(3, many)...)
			h.reset()
			h.push(t, first)
			h.block(t, 0, 0, 0, 0, -500, 600, 0, 0, 0, 0, 0)
		}
	}
	for range 300 {
		h.reset()
		h.block(t, x.row(4, x.upTo(40))...)
		if x.upTo(3) == 0 {
			h.reset()
		}
		h.push(t, x.near(150000))
	}
}
