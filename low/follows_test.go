package low_test

import (
	"slices"
	"testing"
)

// P11.2: the sum is twice the one ahead, less the one ahead of that, and x0, less 2 x6, and x12, from the first step on; of multiples of 32 the answers are the sums, as nothing is lost by the floor.
func TestStepByStep(t *testing.T) {
	var x noise
	for range 3 {
		one := made(t)
		var came []int64
		var ahead, further int64
		for i := range 3000 {
			// 2047 is the greatest number of which 32 times is within the bounds.
			v := 32 * x.near(2047)
			if i%7 == 0 {
				v = 32 * 2047 * int64(2*x.upTo(2)-1)
			}
			came = append(came, v)
			got := 32 * one.Push(v)
			if want := 2*ahead - further + ago(came, 0) - 2*ago(came, 6) + ago(came, 12); got != want {
				t.Fatalf("at %d: the sum %d; step by step %d", i, got, want)
			}
			ahead, further = got, ahead
		}
	}
}

// P11.2: so it is of a lone value, too, and begun anew behind Reset.
func TestStepByStepAnew(t *testing.T) {
	one := made(t)
	for _, v := range []int64{32, -32, 32 * 2047, -32 * 2047} {
		one.Reset()
		var came []int64
		var ahead, further int64
		for _, v := range slices.Concat([]int64{v}, make([]int64, 20)) {
			came = append(came, v)
			got := 32 * one.Push(v)
			if want := 2*ahead - further + ago(came, 0) - 2*ago(came, 6) + ago(came, 12); got != want {
				t.Fatalf("behind %v: the sum %d; step by step %d", came, got, want)
			}
			ahead, further = got, ahead
		}
	}
}

// within looks for what is beyond BoundLow.
func within(t *testing.T, l []int64) {
	t.Helper()
	for i, v := range l {
		if v < -73727 || v > 73727 {
			t.Fatalf("at %d: %d", i, v)
		}
	}
}

// P11.3: nothing is beyond the bound, of values of all kinds.
func TestBound(t *testing.T) {
	var x noise
	one := made(t)
	for kind := range kinds {
		within(t, one.Block(x.row(kind, 100000)...))
	}
	for _, v := range edges() {
		within(t, one.Block(slices.Repeat([]int64{v}, 25)...))
	}
}

// P11.3: nor of those at the bounds, in each order of eleven; the least that is met is the bound, and the greatest one less far.
func TestBoundInEachOrder(t *testing.T) {
	one := made(t)
	var lowest, highest int64
	for n := range 1 << 11 {
		row := make([]int64, 11)
		for i := range row {
			row[i] = bound * int64(n>>i&1*2-1)
		}
		one.Reset()
		got := one.Block(row...)
		within(t, got)
		if want := comesTo(row); got[10] != want {
			t.Fatalf("behind %v: %d; want %d", row, got[10], want)
		}
		lowest, highest = min(lowest, slices.Min(got)), max(highest, slices.Max(got))
	}
	if lowest != -73727 || highest != 73726 {
		t.Errorf("from %d to %d", lowest, highest)
	}
}

// P11.3: the bounds are met at the eleventh time, not ahead of it.
func TestBoundMet(t *testing.T) {
	answers(t, made(t), slices.Repeat([]int64{-bound}, 13),
		-2048, -6144, -12288, -20480, -30720, -43008, -53248, -61440, -67583, -71679, -73727, -73727, -73727)
	answers(t, made(t), slices.Repeat([]int64{bound}, 13),
		2047, 6143, 12287, 20479, 30719, 43007, 53247, 61439, 67582, 71678, 73726, 73726, 73726)
}

// P11.4: what came eleven steps ago, and more, plays no part, whatever it was and however much.
func TestForgotten(t *testing.T) {
	var x noise
	for _, v := range edges() {
		for many := range 30 {
			tail := x.row(1, 11)
			one, other := made(t), made(t)
			one.Block(slices.Repeat([]int64{v}, many)...)
			one.Block(tail[:10]...)
			other.Block(tail[:10]...)
			if got, want := one.Push(tail[10]), other.Push(tail[10]); got != want {
				t.Fatalf("behind %d times %d, and %v: %d; want %d", many, v, tail, got, want)
			}
		}
	}
}

// P11.4: two rows that differ ahead of the eleven last values, or at the edge of them, answer alike from there on.
func TestAlikeFromTheEleventhOn(t *testing.T) {
	var x noise
	for range 300 {
		one, other := made(t), made(t)
		one.Block(x.row(4, x.upTo(30))...)
		other.Block(x.row(4, x.upTo(30))...)
		tail := x.row(4, 40)
		one.Block(tail[:10]...)
		other.Block(tail[:10]...)
		answers(t, one, tail[10:], other.Block(tail[10:]...)...)
	}
}

// P11.4: what came ten steps ago plays a part still, and so does each one behind it; what came eleven steps ago none any more.
func TestTenStepsAgo(t *testing.T) {
	for _, v := range []int64{32, -32, 1000, -1000, bound, -bound, most, least} {
		for steps := range 14 {
			x := made(t)
			x.Block(make([]int64, 20)...)
			x.Push(v)
			x.Block(make([]int64, steps)...)
			// So many zeros came that one more makes it steps + 1 ago.
			if got := x.Push(0); (got != 0) != (steps+1 <= 10) {
				t.Errorf("%d, %d steps ago: %d", v, steps+1, got)
			}
		}
	}
}

// After very many values of all kinds the answers are still those of the eleven last ones.
func TestVeryMany(t *testing.T) {
	var x noise
	one := made(t)
	var last []int64
	for i := range 3000000 {
		v := x.row(i>>10%kinds, 1)[0]
		if len(last) == 11 {
			copy(last, last[1:])
			last = last[:10]
		}
		last = append(last, v)
		if got, want := one.Push(v), comesTo(last); got != want {
			t.Fatalf("at %d, behind %v: %d; want %d", i, last, got, want)
		}
	}
}

// Two filters go each its own way.
func TestTwo(t *testing.T) {
	var x noise
	one, other := heldOf(t), heldOf(t)
	for range 300 {
		one.block(t, x.row(4, x.upTo(6))...)
		other.block(t, x.row(4, x.upTo(6))...)
		one.push(t, x.near(70000))
		other.push(t, x.near(70000))
		if x.upTo(10) == 0 {
			other.reset()
		}
	}
}

// R4: what is handed in is as it was, and nothing behind its length is read or written.
func TestArgumentsStay(t *testing.T) {
	room := []int64{70000, -70000, 500, 40, 3, 2, 1}
	h := heldOf(t)
	h.block(t, room[:4]...)
	h.block(t, room[:0]...)
	h.block(t, room[3:6]...)
	if want := []int64{70000, -70000, 500, 40, 3, 2, 1}; !slices.Equal(room, want) {
		t.Fatalf("the argument is %v", room)
	}
}

// R4: nothing that is handed in is kept: whoever handed it in may change it.
func TestArgumentsAreNotKept(t *testing.T) {
	row := []int64{9000, -8000, 7000, 6000}
	h := heldOf(t)
	h.block(t, row...)
	h.came = slices.Clone(h.came)
	for i := range row {
		row[i] = 31111
	}
	h.block(t, make([]int64, 12)...)
}

// R4: what is answered is new memory: whoever gets it may change it, and put more behind it.
func TestAnswersAreNew(t *testing.T) {
	row := []int64{9000, -8000, 7000, 6000, 500, 600}
	h := heldOf(t)
	first := h.Block(row[:4]...)
	kept := slices.Clone(first)
	second := h.Block(row[4:]...)
	h.came = slices.Clone(row)
	for i := range second {
		second[i] = 29999
	}
	second = append(second, 28888)
	if !slices.Equal(first, kept) {
		t.Fatalf("the first answer is %v; was %v", first, kept)
	}
	first = first[:cap(first)]
	for i := range first {
		first[i] = 27777
	}
	if want := []int64{9000, -8000, 7000, 6000, 500, 600}; !slices.Equal(row, want) {
		t.Fatalf("the argument is %v", row)
	}
	if want := []int64{29999, 29999, 28888}; !slices.Equal(second, want) {
		t.Fatalf("the second answer is %v", second)
	}
	h.block(t, 0, 1, 2, 3, 4, 0, 0, 0, 0, 0, 0, 0)
}
