package notch_test

import (
	"math"
	"slices"
	"testing"

	"systole/api"
	"systole/notch"
)

// The chapter's example.
func TestExample(t *testing.T) {
	answers(t, made(t, 50), []int64{4, 0, 0, 0, 0}, 1, 1, 1, 1, 0)
	x := made(t, 50)
	for i, want := range []int64{1, 1, 1, 1, 0} {
		if got := x.Push([]int64{4, 0, 0, 0, 0}[i]); got != want {
			t.Errorf("Push, at %d: %d; want %d", i, got, want)
		}
	}
}

// P10.1: mains that may not be.
func TestNewRefuses(t *testing.T) {
	l := []int{1, 2, 4, 16, 25, 49, 51, 52, 55, 59, 61, 62, 100, 110, 120, 255, 256, 256 + 50, 256 + 60, 1 << 16, 1<<16 + 50, 1<<16 + 60, 1 << 32, 1<<32 + 50, 1<<32 + 60, 1 << 62, math.MaxInt - 1, math.MaxInt}
	for _, mains := range l {
		l = append(l, -mains)
	}
	for _, mains := range append(l, -50, -60, math.MinInt, math.MinInt+50, math.MinInt+60) {
		if x, e := notch.New(mains); x != nil || e != api.ErrArg {
			t.Errorf("New(%d): %v, error %d", mains, x, e)
		}
	}
	for mains := -1000; mains <= 1000; mains++ {
		want := api.ErrArg
		if slices.Contains(known(), mains) {
			want = api.OK
		}
		if x, e := notch.New(mains); e != want || (x != nil) != (want == api.OK) {
			t.Errorf("New(%d): %v, error %d; want %d", mains, x, e, want)
		}
	}
}

// P10.1: each of the mains that may be: what the new notch says, and that nothing came to it.
func TestNew(t *testing.T) {
	for _, mains := range known() {
		if got := made(t, mains).Mains(); got != mains {
			t.Errorf("New(%d): Mains %d", mains, got)
		}
		heldOf(t, mains).push(t, 0)
		heldOf(t, mains).push(t, 40000)
		heldOf(t, mains).push(t, -40000)
		heldOf(t, mains).block(t)
		heldOf(t, mains).block(t, 40000, 3, -7, 0, 0, 0, 0)
		h := heldOf(t, mains)
		h.reset(t)
		h.reset(t)
		h.block(t, -40000, 3, -7, 0, 0, 0, 0)
	}
}

// P10.1: each call of a notch that no call made, that is nil: nothing is done, and it stays so.
func TestNil(t *testing.T) {
	var x *notch.Notch
	for range 2 {
		for _, v := range edges() {
			if got := x.Push(v); got != 0 {
				t.Errorf("Push(%d) of nil: %d", v, got)
			}
			if got := x.Block(v, v); len(got) != 0 {
				t.Errorf("Block of nil: %v", got)
			}
		}
		if got := x.Block(); len(got) != 0 {
			t.Errorf("Block of nil: %v", got)
		}
		if got := x.Mains(); got != 0 {
			t.Errorf("Mains of nil: %d", got)
		}
		x.Reset()
		if x != nil {
			t.Error("it is not nil any more")
		}
	}
}

// P10.1: a single value that is not 0, of either sign, wherever it stands among zeros: written out.
func TestLone(t *testing.T) {
	for _, c := range []struct {
		mains int
		v     int64
		want  []int64
	}{
		{0, 1, []int64{1, 0}},
		{0, -1, []int64{-1, 0}},
		{0, 7, []int64{7, 0}},
		{0, bound, []int64{65535, 0}},
		{0, -bound, []int64{-65535, 0}},
		{50, 1, []int64{0, 0, 0, 0, 0}},
		{50, -1, []int64{-1, -1, -1, -1, 0}},
		{50, 3, []int64{0, 0, 0, 0, 0}},
		{50, -3, []int64{-1, -1, -1, -1, 0}},
		{50, 4, []int64{1, 1, 1, 1, 0}},
		{50, -4, []int64{-1, -1, -1, -1, 0}},
		{50, 5, []int64{1, 1, 1, 1, 0}},
		{50, -5, []int64{-2, -2, -2, -2, 0}},
		{50, 1000, []int64{250, 250, 250, 250, 0}},
		{50, -1000, []int64{-250, -250, -250, -250, 0}},
		{50, bound, []int64{16383, 16383, 16383, 16383, 0}},
		{50, -bound, []int64{-16384, -16384, -16384, -16384, 0}},
		{60, 1, []int64{0, 0, 0, 0}},
		{60, -1, []int64{-1, -1, -1, 0}},
		{60, 2, []int64{0, 0, 0, 0}},
		{60, 3, []int64{1, 0, 1, 0}},
		{60, -3, []int64{-2, -1, -2, 0}},
		{60, 5, []int64{1, 1, 1, 0}},
		{60, -5, []int64{-2, -2, -2, 0}},
		{60, 1000, []int64{381, 236, 381, 0}},
		{60, -1000, []int64{-382, -237, -382, 0}},
		{60, 32768, []int64{12516, 7736, 12516, 0}},
		{60, -32768, []int64{-12516, -7736, -12516, 0}},
		{60, bound, []int64{25031, 15471, 25031, 0}},
		{60, -bound, []int64{-25032, -15472, -25032, 0}},
	} {
		for ahead := range 6 {
			for behind := range 6 {
				row := slices.Concat(make([]int64, ahead), []int64{c.v}, make([]int64, 4+behind))
				want := slices.Concat(make([]int64, ahead), c.want)
				want = append(want, make([]int64, len(row)-len(want))...)
				answers(t, made(t, c.mains), row, want...)
			}
		}
	}
}

// P10.1: values at the bounds, just within and just beyond, and at the ends of the range of 64 bits: written out.
func TestNearest(t *testing.T) {
	for _, c := range []struct {
		v, want int64
	}{
		{65534, 65534}, {65535, 65535}, {65536, 65535}, {65537, 65535}, {70000, 65535},
		{-65534, -65534}, {-65535, -65535}, {-65536, -65535}, {-65537, -65535}, {-70000, -65535},
		{1<<32 + 5, 65535}, {-1<<32 - 5, -65535}, {1 << 48, 65535}, {-1 << 48, -65535}, {1 << 62, 65535}, {-1 << 62, -65535},
		{most, 65535}, {most - 1, 65535}, {least, -65535}, {least + 1, -65535},
	} {
		answers(t, made(t, 0), []int64{c.v, 0, c.v, c.v}, c.want, 0, c.want, c.want)
		for _, mains := range known() {
			got := made(t, mains).Block(c.v, c.v, c.v, c.v, c.v)
			if got[3] != c.want || got[4] != c.want {
				t.Errorf("mains %d over five times %d: %v", mains, c.v, got)
			}
		}
	}
	// One of two signs takes the other one back: just so far as it counts.
	answers(t, made(t, 50), []int64{most, least, 8, 0, 0, 0}, 16383, 0, 2, 2, -16382, 2)
	answers(t, made(t, 60), []int64{most, 0, least, 0, 0}, 25031, 15471, 0, -15472, -25032)
}

// P10.1: what came beyond the bounds counts as the bound still in the steps behind it: each edge with each other one.
func TestEdges(t *testing.T) {
	for _, mains := range known() {
		for _, a := range edges() {
			for _, b := range edges() {
				heldOf(t, mains).block(t, a, b, 0, a, a, b, b, 1, -1)
			}
		}
	}
}

// P10.1: floors of sums that leave a rest, above and below 0: written out.
func TestFloors(t *testing.T) {
	for _, c := range []struct {
		mains int
		row   []int64
		want  []int64
	}{
		{50, []int64{-1, -1, -1, -1, -1}, []int64{-1, -1, -1, -1, -1}},
		{50, []int64{-2, -2, -1, -3, -4}, []int64{-1, -1, -2, -2, -3}},
		{50, []int64{-3, 1, 1, 0, 2}, []int64{-1, -1, -1, -1, 1}},
		{50, []int64{3, -4, -1, -1, 1}, []int64{0, -1, -1, -1, -2}},
		{50, []int64{1, 1, 1, 0, 1, 2}, []int64{0, 0, 0, 0, 0, 1}},
		{50, []int64{-7, 0, 0, 0, 7}, []int64{-2, -2, -2, -2, 1}},
		{60, []int64{-1, -1, -1, -1}, []int64{-1, -1, -1, -1}},
		{60, []int64{-2, -2, -1, -3}, []int64{-1, -2, -2, -3}},
		{60, []int64{1, -2, 0, 1}, []int64{0, -1, -1, -1}},
		{60, []int64{-1, 1, 0, 1}, []int64{-1, 0, -1, 0}},
		{60, []int64{-32768, 1, 0, -1}, []int64{-12516, -7736, -12516, 0}},
		{60, []int64{-32768, -1, 0, -1}, []int64{-12516, -7737, -12517, -1}},
	} {
		answers(t, made(t, c.mains), c.row, c.want...)
	}
}

// P10.1: each row of four values near 0, in which rests of all kinds are.
func TestSmall(t *testing.T) {
	for _, mains := range known() {
		x := made(t, mains)
		for n := range 9 * 9 * 9 * 9 {
			row := []int64{int64(n%9) - 4, int64(n/9%9) - 4, int64(n/81%9) - 4, int64(n/729) - 4}
			x.Reset()
			answers(t, x, row, said(mains, row, 0)...)
		}
	}
}

// P10.1: a Block of none, of one, and of many.
func TestBlock(t *testing.T) {
	for _, mains := range known() {
		h := heldOf(t, mains)
		h.block(t)
		h.block(t, []int64{}...)
		h.block(t, -9)
		h.block(t)
		h.block(t, 8, 7, -6, 5, 4, 3)
		h.block(t)
		h.block(t, 100)
		h.block(t, slices.Repeat([]int64{11, -12, 13, 40000}, 500)...)
	}
}

// P10.1: long rows of all kinds, all at once.
func TestRows(t *testing.T) {
	for _, mains := range known() {
		for _, row := range rows() {
			heldOf(t, mains).block(t, row...)
		}
	}
}

// P10.1: behind Reset it is as if nothing had come, however much had.
func TestReset(t *testing.T) {
	var x noise
	for _, mains := range known() {
		h := heldOf(t, mains)
		for many := range 12 {
			for _, first := range []int64{0, 1, -1, 65535, least} {
				h.reset(t)
				h.block(t, x.row(3, many)...)
				h.reset(t)
				h.push(t, first)
				h.block(t, 0, 0, 0, 0, -5, 6)
			}
		}
		for range 300 {
			h.reset(t)
			h.block(t, x.row(4, x.upTo(40))...)
			if x.upTo(3) == 0 {
				h.reset(t)
			}
			h.push(t, x.near(70000))
		}
	}
}
