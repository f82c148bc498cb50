package line_test

import (
	"math"
	"slices"
	"testing"

	"systole/api"
	"systole/line"
)

// P3.1: a number of steps that may not be.
func TestNewRefuses(t *testing.T) {
	for _, steps := range []int{-1, -2, -1024, math.MinInt, 1025, 1026, 2047, 2048, 1 << 16, math.MaxInt} {
		if x, e := line.New(steps); x != nil || e != api.ErrArg {
			t.Errorf("New(%d): %v, error %d", steps, x, e)
		}
	}
}

// P3.1: each number of steps that may be; nothing came, and then just so many steps are looked back to.
func TestNewTakes(t *testing.T) {
	for steps := 0; steps <= 1024; steps++ {
		x := madeLine(t, steps)
		if x.Most() != steps {
			t.Fatalf("New(%d): Most %d", steps, x.Most())
		}
		for _, k := range []int{-1, 0, 1, steps, steps + 1} {
			backIs(t, x.Back, nil, steps, k)
		}
		came := numbers(1, int64(steps)+4)
		x.Push(came...)
		for _, k := range []int{-1, 0, 1, 2, steps - 1, steps, steps + 1, steps + 2} {
			backIs(t, x.Back, came, steps, k)
		}
	}
}

// P3.1: the numbers of steps that the document names, at all steps, behind each value.
func TestNewEdges(t *testing.T) {
	for _, steps := range []int{0, 1, 2, 3, 4, 7, 8} {
		x := madeLine(t, steps)
		lineHolds(t, x, steps)
		var came []int64
		for v := range int64(3*steps + 5) {
			x.Push(v - 3)
			came = append(came, v-3)
			lineHolds(t, x, steps, came...)
		}
	}
	came := mixed(3000)
	lineHolds(t, madeLine(t, 1024, came[:1024]...), 1024, came[:1024]...)
	lineHolds(t, madeLine(t, 1024, came[:1025]...), 1024, came[:1025]...)
	lineHolds(t, madeLine(t, 1024, came...), 1024, came...)
	lineHolds(t, madeLine(t, 1023, came...), 1023, came...)
}

// P3.1: two lines have nothing in common.
func TestLinesApart(t *testing.T) {
	a, b := madeLine(t, 2, 1, 2), madeLine(t, 2)
	lineHolds(t, b, 2)
	b.Push(7)
	lineHolds(t, a, 2, 1, 2)
	a.Reset()
	lineHolds(t, a, 2)
	lineHolds(t, b, 2, 7)
}

// P3.1: Push of none, of one, of just a line, and of more than a line.
func TestPush(t *testing.T) {
	for _, c := range []struct{ there, more []int64 }{
		{nil, nil},
		{nil, []int64{}},
		{nil, []int64{5}},
		{nil, []int64{5, -6, 7, most}},
		{nil, []int64{5, -6, 7, most, least}},
		{nil, numbers(1, 100)},
		{[]int64{1}, nil},
		{[]int64{1}, []int64{2}},
		{[]int64{1, 2}, []int64{3, 4, 5}},
		{[]int64{1, 2, 3, 4}, nil},
		{[]int64{1, 2, 3, 4}, []int64{5}},
		{[]int64{1, 2, 3, 4}, []int64{5, 6, 7}},
		{[]int64{1, 2, 3, 4}, []int64{5, 6, 7, 8}},
		{[]int64{1, 2, 3, 4}, numbers(5, 99)},
		{[]int64{1, 2, 3, 4}, []int64{0, 0}},
	} {
		x := madeLine(t, 3, c.there...)
		lineHolds(t, x, 3, c.there...)
		came := slices.Concat(c.there, c.more)
		x.Push(c.more...)
		lineHolds(t, x, 3, came...)
		x.Push()
		lineHolds(t, x, 3, came...)
	}
}

// P3.1: what came k steps ago, written out: of k below 0, of 0, of most, beyond it, and of more than came.
func TestBack(t *testing.T) {
	x := madeLine(t, 3, 11, 12)
	for _, c := range []struct {
		k    int
		want int64
	}{
		{math.MinInt, 0}, {-1, 0}, {0, 12}, {1, 11}, {2, 0}, {3, 0}, {4, 0}, {math.MaxInt, 0},
	} {
		if v := x.Back(c.k); v != c.want {
			t.Errorf("Back(%d) behind two values: %d; want %d", c.k, v, c.want)
		}
	}
	x.Push(13, 14, 15)
	for _, c := range []struct {
		k    int
		want int64
	}{
		{math.MinInt, 0}, {-1, 0}, {0, 15}, {1, 14}, {2, 13}, {3, 12}, {4, 0}, {5, 0}, {math.MaxInt, 0},
	} {
		if v := x.Back(c.k); v != c.want {
			t.Errorf("Back(%d) behind five values: %d; want %d", c.k, v, c.want)
		}
	}
}

// P3.1: a line of no steps has the last value alone.
func TestNoSteps(t *testing.T) {
	x := madeLine(t, 0)
	for _, v := range []int64{3, 0, -4, most, least} {
		x.Push(v)
		if x.Back(0) != v || x.Back(1) != 0 || x.Back(-1) != 0 {
			t.Errorf("behind %d: %d, %d, %d", v, x.Back(0), x.Back(1), x.Back(-1))
		}
	}
}

// P3.1: a look changes nothing.
func TestLookChangesNothing(t *testing.T) {
	x := madeLine(t, 2, 1, 2, 3, 4)
	for range 9 {
		x.Back(0)
		x.Back(2)
		x.Back(-1)
		x.Back(3)
		x.Most()
	}
	lineHolds(t, x, 2, 1, 2, 3, 4)
}

// P3.1: Reset behind none, some, and more than a line; and what is pushed behind it.
func TestReset(t *testing.T) {
	for many := range int64(12) {
		for more := range int64(9) {
			x := madeLine(t, 3, numbers(1, 1+many)...)
			x.Reset()
			lineHolds(t, x, 3)
			came := numbers(50, 50+more)
			for i, v := range came {
				x.Push(v)
				lineHolds(t, x, 3, came[:i+1]...)
			}
			x.Reset()
			x.Reset()
			lineHolds(t, x, 3)
		}
	}
}

// The rule R4: a list that is handed in is neither kept nor changed, and what lies behind its length is not read.
func TestPushKeepsNothing(t *testing.T) {
	within := []int64{1, 2, 3, 4, 5, 6}
	l := within[:3]
	x := madeLine(t, 3)
	x.Push(l...)
	lineHolds(t, x, 3, 1, 2, 3)
	l[0], l[2] = 99, 98
	lineHolds(t, x, 3, 1, 2, 3)
	x.Push(7, 8)
	x.Reset()
	if !slices.Equal(within, []int64{99, 2, 98, 4, 5, 6}) {
		t.Errorf("what was handed in became %v", within)
	}
}
