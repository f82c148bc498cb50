package low_test

import (
	"slices"
	"testing"

	"systole/low"
)

// The chapter's example.
func TestExample(t *testing.T) {
	row := []int64{32, 0, 0, 0, 0, 0, 0, 0, 0, 0, 0, 0}
	want := []int64{1, 2, 3, 4, 5, 6, 5, 4, 3, 2, 1, 0}
	answers(t, made(t), row, want...)
	x := made(t)
	for i, v := range row {
		if got := x.Push(v); got != want[i] {
			t.Errorf("Push, at %d: %d; want %d", i, got, want[i])
		}
	}
}

// P11.1: nothing came to a new filter, whichever call is the first one.
func TestNew(t *testing.T) {
	for _, v := range edges() {
		heldOf(t).push(t, v)
		heldOf(t).block(t, v)
		heldOf(t).block(t, v, 0, 0, 0, 0, 0, 0, 0, 0, 0, 0, 0, v)
	}
	heldOf(t).block(t)
	h := heldOf(t)
	h.reset()
	h.reset()
	h.block(t, -40000, 3, -7, 0, 0, 0, 0, 0, 0, 0, 0, 0, 0, 0)
}

// P11.1: each call of a filter that no call made, that is nil: nothing is done, and it stays so.
func TestNil(t *testing.T) {
	var x *low.Low
	for range 2 {
		for _, v := range edges() {
			if got := x.Push(v); got != 0 {
				t.Errorf("Push(%d) of nil: %d", v, got)
			}
			if got := x.Block(v, v); len(got) != 0 {
				t.Errorf("Block of nil: %v", got)
			}
		}
		if got := x.Block(); len(got) != 0 {
			t.Errorf("Block of no value of nil: %v", got)
		}
		x.Reset()
		if x != nil {
			t.Error("it is not nil any more")
		}
	}
}

// P11.1: a single value that is not 0, of either sign, behind and ahead of zeros, so that each weight is seen: written out.
func TestLone(t *testing.T) {
	for _, c := range []struct {
		v    int64
		want []int64
	}{
		{1, []int64{0, 0, 0, 0, 0, 0, 0, 0, 0, 0, 0}},
		{-1, []int64{-1, -1, -1, -1, -1, -1, -1, -1, -1, -1, -1}},
		{6, []int64{0, 0, 0, 0, 0, 1, 0, 0, 0, 0, 0}},
		{-6, []int64{-1, -1, -1, -1, -1, -2, -1, -1, -1, -1, -1}},
		{31, []int64{0, 1, 2, 3, 4, 5, 4, 3, 2, 1, 0}},
		{-31, []int64{-1, -2, -3, -4, -5, -6, -5, -4, -3, -2, -1}},
		{32, []int64{1, 2, 3, 4, 5, 6, 5, 4, 3, 2, 1}},
		{-32, []int64{-1, -2, -3, -4, -5, -6, -5, -4, -3, -2, -1}},
		{33, []int64{1, 2, 3, 4, 5, 6, 5, 4, 3, 2, 1}},
		{-33, []int64{-2, -3, -4, -5, -6, -7, -6, -5, -4, -3, -2}},
		{1000, []int64{31, 62, 93, 125, 156, 187, 156, 125, 93, 62, 31}},
		{-1000, []int64{-32, -63, -94, -125, -157, -188, -157, -125, -94, -63, -32}},
		{bound, []int64{2047, 4095, 6143, 8191, 10239, 12287, 10239, 8191, 6143, 4095, 2047}},
		{-bound, []int64{-2048, -4096, -6144, -8192, -10240, -12288, -10240, -8192, -6144, -4096, -2048}},
		{most, []int64{2047, 4095, 6143, 8191, 10239, 12287, 10239, 8191, 6143, 4095, 2047}},
		{least, []int64{-2048, -4096, -6144, -8192, -10240, -12288, -10240, -8192, -6144, -4096, -2048}},
	} {
		for ahead := range 14 {
			for behind := range 14 {
				row := slices.Concat(make([]int64, ahead), []int64{c.v}, make([]int64, 10+behind))
				want := slices.Concat(make([]int64, ahead), c.want, make([]int64, behind))
				answers(t, made(t), row, want...)
			}
		}
	}
}

// P11.1: values just within the bounds, at them and just beyond, and at the ends of the range of 64 bits: eleven times, written out.
func TestNearest(t *testing.T) {
	for _, c := range []struct {
		v, want int64
	}{
		{65533, 73724}, {65534, 73725}, {65535, 73726}, {65536, 73726}, {65537, 73726}, {70000, 73726},
		{-65533, -73725}, {-65534, -73726}, {-65535, -73727}, {-65536, -73727}, {-65537, -73727}, {-70000, -73727},
		{1<<32 + 5, 73726}, {-1<<32 - 5, -73727}, {1 << 48, 73726}, {-1 << 48, -73727}, {1 << 59, 73726}, {-1 << 59, -73727}, {1 << 62, 73726}, {-1 << 62, -73727},
		{most, 73726}, {most - 1, 73726}, {least, -73727}, {least + 1, -73727},
	} {
		got := made(t).Block(slices.Repeat([]int64{c.v}, 14)...)
		if len(got) != 14 || !slices.Equal(got[10:], []int64{c.want, c.want, c.want, c.want}) {
			t.Errorf("fourteen times %d: %v; want %d at the end", c.v, got, c.want)
		}
	}
	// Of two signs one takes the other one back: just so far as it counts.
	answers(t, made(t), []int64{most, least, 32, 0, 0, 0, 0, 0, 0, 0, 0, 0, 0, 0},
		2047, 2047, 2048, 2049, 2050, 2051, -2043, -2042, -2043, -2044, -2045, -2046, 1, 0)
}

// P11.1: what came beyond the bounds counts as the bound in the steps behind it, too: each edge with each other one.
func TestEdges(t *testing.T) {
	for _, a := range edges() {
		for _, b := range edges() {
			heldOf(t).block(t, a, b, 0, a, a, b, b, 1, -1, 0, b, a, 0, 0, 0)
		}
	}
}

// P11.1: floors of sums that leave a rest, below 0 and above: written out.
func TestFloors(t *testing.T) {
	for _, c := range []struct {
		row, want []int64
	}{
		{[]int64{-1, -1, -1, -1, -1, -1, -1, -1, -1, -1, -1, -1}, []int64{-1, -1, -1, -1, -1, -1, -1, -1, -2, -2, -2, -2}},
		{[]int64{1, 1, 1, 1, 1, 1, 1, 1, 1, 1, 1, 1}, []int64{0, 0, 0, 0, 0, 0, 0, 0, 1, 1, 1, 1}},
		{[]int64{-15, -1, 0, 0, 0, 0, 0, 0, 0, 0, 0, 0}, []int64{-1, -1, -2, -2, -3, -3, -3, -3, -2, -2, -1, -1}},
		{[]int64{-16, 0, 0, 0, 0, 0, 0, 0, 0, 0, 0, 0}, []int64{-1, -1, -2, -2, -3, -3, -3, -2, -2, -1, -1, 0}},
		{[]int64{-17, 1, 0, 0, 0, 0, 0, 0, 0, 0, 0, 0}, []int64{-1, -2, -2, -3, -3, -4, -3, -2, -2, -1, -1, 0}},
		{[]int64{31, -63, 0, 0, 0, 0, 0, 0, 0, 0, 0, 0}, []int64{0, -1, -2, -3, -4, -5, -7, -6, -5, -4, -3, -2}},
		{[]int64{-32, -1, 0, 0, 0, 0, 0, 0, 0, 0, 0, 0}, []int64{-1, -3, -4, -5, -6, -7, -6, -5, -4, -3, -2, -1}},
		{[]int64{-32, 1, 0, 0, 0, 0, 0, 0, 0, 0, 0, 0}, []int64{-1, -2, -3, -4, -5, -6, -5, -4, -3, -2, -1, 0}},
	} {
		answers(t, made(t), c.row, c.want...)
	}
}

// P11.1: each pair of values near 0, at each distance from 1 to 11, so that rests of all kinds come with all weights.
func TestSmall(t *testing.T) {
	for distance := 1; distance <= 11; distance++ {
		for a := int64(-17); a <= 17; a++ {
			for b := int64(-17); b <= 17; b++ {
				row := make([]int64, 23)
				row[0], row[distance] = a, b
				heldOf(t).block(t, row...)
			}
		}
	}
}

// P11.1: a Block of none, of one, and of many.
func TestBlock(t *testing.T) {
	h := heldOf(t)
	h.block(t)
	h.block(t, []int64{}...)
	h.block(t, -9)
	h.block(t)
	h.block(t, 8, 7, -6, 5, 4, 3)
	h.block(t)
	h.block(t, 1000)
	h.block(t, slices.Repeat([]int64{11, -12, 13, 40000}, 500)...)
	h.block(t)
	h.block(t, -1)
}

// P11.1: long rows of each kind, all at once.
func TestRows(t *testing.T) {
	for _, row := range rows() {
		heldOf(t).block(t, row...)
	}
}

// P11.1: the same values in pieces of all lengths, none among them, come to the same as in one Block.
func TestPieces(t *testing.T) {
	var x noise
	for _, row := range rows() {
		whole := made(t).Block(row...)
		for _, far := range []int{1, 2, 4, 11, 12, 300} {
			one := made(t)
			for at := 0; at < len(row); {
				to := min(len(row), at+x.upTo(far+1))
				answers(t, one, row[at:to], whole[at:to]...)
				at = to
			}
		}
	}
}

// P11.1: value by value, by Push, by Block of one, and by both in turn, it is the same.
func TestValueByValue(t *testing.T) {
	for _, row := range rows() {
		whole := made(t).Block(row...)
		pushed, blocks, both := made(t), made(t), made(t)
		for i, v := range row {
			if got := pushed.Push(v); got != whole[i] {
				t.Fatalf("Push(%d), at %d: %d; in one Block %d", v, i, got, whole[i])
			}
			answers(t, blocks, row[i:i+1], whole[i])
			if i%2 == 0 {
				answers(t, both, row[i:i+1], whole[i])
			} else if got := both.Push(v); got != whole[i] {
				t.Fatalf("Push(%d) behind Block, at %d: %d; in one Block %d", v, i, got, whole[i])
			}
		}
	}
}

// P11.1: each way to cut a short row.
func TestEachCut(t *testing.T) {
	row := []int64{4, -3, most, 0, least, 700, 7, 1, -65535, 33, 0, -1}
	for cuts := range 1 << (len(row) - 1) {
		h := heldOf(t)
		from := 0
		for i := range row {
			if i == len(row)-1 || cuts>>i&1 == 1 {
				h.block(t, row[from:i+1]...)
				h.block(t)
				from = i + 1
			}
		}
	}
}

// P11.1: behind Reset it is as if nothing had come, however much had.
func TestReset(t *testing.T) {
	var x noise
	h := heldOf(t)
	for many := range 30 {
		for _, first := range []int64{0, 1, -1, 65535, least} {
			h.reset()
			h.block(t, x.row(3, many)...)
			h.reset()
			h.push(t, first)
			h.block(t, 0, 0, 0, 0, -500, 600, 0, 0, 0, 0, 0, 0, 0)
		}
	}
	for range 300 {
		h.reset()
		h.block(t, x.row(4, x.upTo(60))...)
		if x.upTo(3) == 0 {
			h.reset()
		}
		h.push(t, x.near(70000))
	}
}
