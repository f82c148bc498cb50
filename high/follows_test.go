package high_test

import (
	"slices"
	"testing"
)

// within looks for what is beyond BoundHigh.
func within(t *testing.T, l []int64) {
	t.Helper()
	for i, v := range l {
		if v < -142847 || v > 142847 {
			t.Fatalf("at %d: %d", i, v)
		}
	}
}

// P12.2: nothing is beyond the bound, of values of all kinds.
func TestBound(t *testing.T) {
	var x noise
	one := made(t)
	for kind := range kinds {
		within(t, one.Block(x.row(kind, 100000)...))
	}
	for _, v := range edges() {
		within(t, one.Block(times(v, 50)...))
	}
	for _, a := range edges() {
		for _, b := range edges() {
			within(t, one.Block(slices.Concat(times(a, 33), []int64{b}, times(a, 33))...))
		}
	}
}

// P12.2: the bounds are met where what came sixteen steps ago is at one bound, and all the rest at the other one; not a step ahead, nor a step behind.
func TestBoundMet(t *testing.T) {
	for _, far := range []int64{bound, bound + 1, most} {
		one := made(t)
		one.Block(times(far, 32)...)
		answers(t, one, slices.Concat([]int64{-far}, times(far, 32)), append(around(4607, -142847), 0)...)
		one.Block(times(-far, 32)...)
		answers(t, one, slices.Concat([]int64{far}, times(-far, 32)), append(around(-4608, 142846), 0)...)
	}
}

// P12.2: nor of those at the bounds, in very many orders; the least that is met is the bound, and the greatest one less far.
func TestBoundInManyOrders(t *testing.T) {
	var x noise
	one := made(t)
	var lowest, highest int64
	for range 20000 {
		row := make([]int64, 32)
		// Mostly of one sign, so that rows come near the bounds.
		sign, few := int64(2*x.upTo(2)-1), 1+x.upTo(12)
		for i := range row {
			row[i] = bound * sign
			if x.upTo(few) == 1 {
				row[i] = -row[i]
			}
		}
		row[15] = -bound * sign
		one.Reset()
		got := one.Block(row...)
		within(t, got)
		if want := comesTo(row); got[31] != want {
			t.Fatalf("behind %v: %d; want %d", row, got[31], want)
		}
		lowest, highest = min(lowest, slices.Min(got)), max(highest, slices.Max(got))
	}
	if lowest != -142847 || highest != 142846 {
		t.Errorf("from %d to %d", lowest, highest)
	}
}

// P12.3: of a value that comes again and again it is 0, from the 32nd one on, whatever came ahead.
func TestEven(t *testing.T) {
	var x noise
	for _, v := range edges() {
		for kind := range kinds {
			one := made(t)
			one.Block(x.row(kind, x.upTo(70))...)
			got := one.Block(times(v, 200)...)
			if !slices.Equal(got[31:], times(0, 169)) {
				t.Fatalf("200 times %d: %v", v, got)
			}
			if got := one.Push(v); got != 0 {
				t.Fatalf("Push of %d once more: %d", v, got)
			}
		}
	}
}

// P12.3: values that count as the same one, at a bound, are the same one here.
func TestEvenAtTheBounds(t *testing.T) {
	var x noise
	for _, sign := range []int64{-1, 1} {
		one := made(t)
		one.Block(x.row(4, 50)...)
		got := one.Block(slices.Repeat([]int64{sign * bound, sign * most, sign * (bound + 1), sign << 40}, 20)...)
		if !slices.Equal(got[31:], times(0, 49)) {
			t.Fatalf("beyond the bound, sign %d: %v", sign, got)
		}
	}
}

// P12.3: at the 31st what came ahead counts still: written out.
func TestNotEvenYet(t *testing.T) {
	for _, c := range []struct {
		ahead, v, at31 int64
	}{
		{32, 0, -1}, {-32, 0, 1}, {1, 0, -1}, {-31, 0, 0}, {0, 32, 1}, {0, -32, -1}, {0, -1, -1},
		{64, 32, -1}, {bound, 0, -2304}, {-bound, 0, 2303}, {bound, -bound, -4608}, {-bound, bound, 4607}, {most, least, -4608}, {least, most, 4607},
	} {
		got := behind(t, c.ahead, times(c.v, 33))
		if want := []int64{c.at31, 0, 0}; !slices.Equal(got[30:], want) {
			t.Errorf("33 times %d behind %d: %v at the end; want %v", c.v, c.ahead, got[30:], want)
		}
	}
	// A step from one value that came again and again to another one: up to half of it, then all of the other half at once.
	one := made(t)
	one.Block(times(64, 32)...)
	answers(t, one, times(0, 34), 2, 4, 6, 8, 10, 12, 14, 16, 18, 20, 22, 24, 26, 28, 30, 32,
		-30, -28, -26, -24, -22, -20, -18, -16, -14, -12, -10, -8, -6, -4, -2, 0, 0, 0)
}

// behind is what a row comes to behind a single value, which comes behind much else.
func behind(t *testing.T, v int64, row []int64) []int64 {
	t.Helper()
	var x noise
	one := made(t)
	one.Block(x.row(4, 40)...)
	one.Push(v)
	return one.Block(row...)
}

// P12.4: what came 32 steps ago, and more, plays no part, whatever it was and however much.
func TestForgotten(t *testing.T) {
	var x noise
	for _, v := range edges() {
		for many := range 70 {
			tail := x.row(1, 32)
			one, other := made(t), made(t)
			one.Block(times(v, many)...)
			one.Block(tail[:31]...)
			other.Block(tail[:31]...)
			if got, want := one.Push(tail[31]), other.Push(tail[31]); got != want {
				t.Fatalf("behind %d times %d, and %v: %d; want %d", many, v, tail, got, want)
			}
		}
	}
}

// P12.4: two rows that differ ahead of the 32 last values, or at the edge of them, answer alike from there on.
func TestAlikeFromThe32ndOn(t *testing.T) {
	var x noise
	for range 300 {
		one, other := made(t), made(t)
		one.Block(x.row(4, x.upTo(70))...)
		other.Block(x.row(4, x.upTo(70))...)
		tail := x.row(4, 80)
		one.Block(tail[:31]...)
		other.Block(tail[:31]...)
		answers(t, one, tail[31:], other.Block(tail[31:]...)...)
	}
}

// P12.4: what came 31 steps ago plays a part still, and so does each one behind it; what came 32 steps ago none any more.
func TestThirtyOneStepsAgo(t *testing.T) {
	for _, v := range []int64{32, -32, 1000, -1000, bound, -bound, most, least} {
		for steps := range 40 {
			x := made(t)
			x.Block(times(0, 50)...)
			x.Push(v)
			x.Block(times(0, steps)...)
			// So many zeros came that one more makes it steps + 1 ago.
			if got := x.Push(0); (got != 0) != (steps+1 <= 31) {
				t.Errorf("%d, %d steps ago: %d", v, steps+1, got)
			}
		}
	}
}

// After very many values of all kinds the answers are still those of the 32 last ones.
func TestVeryMany(t *testing.T) {
	var x noise
	one := made(t)
	var last []int64
	for i := range 2000000 {
		v := x.row(i>>10%kinds, 1)[0]
		if len(last) == 32 {
			copy(last, last[1:])
			last = last[:31]
		}
		last = append(last, v)
		if got, want := one.Push(v), comesTo(last); got != want {
			t.Fatalf("at %d, behind %v: %d; want %d", i, last, got, want)
		}
	}
}

// Two filters go each its own way.
func TestTwo(t *testing.T) {
	var x noise
	one, other := heldOf(t), heldOf(t)
	for range 300 {
		one.block(t, x.row(4, x.upTo(9))...)
		other.block(t, x.row(4, x.upTo(9))...)
		one.push(t, x.near(80000))
		other.push(t, x.near(80000))
		if x.upTo(20) == 0 {
			other.reset()
		}
	}
}

// R4: what is handed in is as it was, and nothing behind its length is read or written.
func TestArgumentsStay(t *testing.T) {
	room := []int64{80000, -80000, 500, 40, 3, 2, 1}
	h := heldOf(t)
	h.block(t, room[:4]...)
	h.block(t, room[:0]...)
	h.block(t, room[3:6]...)
	if want := []int64{80000, -80000, 500, 40, 3, 2, 1}; !slices.Equal(room, want) {
		t.Fatalf("the argument is %v", room)
	}
}

// R4: nothing that is handed in is kept: whoever handed it in may change it.
func TestArgumentsAreNotKept(t *testing.T) {
	row := []int64{9000, -8000, 7000, 6000}
	h := heldOf(t)
	h.block(t, row...)
	h.came = slices.Clone(h.came)
	for i := range row {
		row[i] = 31111
	}
	h.block(t, times(0, 34)...)
}

// R4: what is answered is new memory: whoever gets it may change it, and put more behind it.
func TestAnswersAreNew(t *testing.T) {
	row := []int64{9000, -8000, 7000, 6000, 500, 600}
	h := heldOf(t)
	first := h.Block(row[:4]...)
	kept := slices.Clone(first)
	second := h.Block(row[4:]...)
	h.came = slices.Clone(row)
	for i := range second {
		second[i] = 29999
	}
	second = append(second, 28888)
	if !slices.Equal(first, kept) {
		t.Fatalf("the first answer is %v; was %v", first, kept)
	}
	first = first[:cap(first)]
	for i := range first {
		first[i] = 27777
	}
	if want := []int64{9000, -8000, 7000, 6000, 500, 600}; !slices.Equal(row, want) {
		t.Fatalf("the argument is %v", row)
	}
	if want := []int64{29999, 29999, 28888}; !slices.Equal(second, want) {
		t.Fatalf("the second answer is %v", second)
	}
	h.block(t, slices.Concat([]int64{0, 1, 2, 3, 4}, times(0, 34))...)
}
