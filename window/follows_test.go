package window_test

import (
	"slices"
	"testing"

	"systole/window"
)

// within looks for what is below 0, or beyond BoundWindow.
func within(t *testing.T, l []int64) {
	t.Helper()
	for i, v := range l {
		if v < 0 || v > 62914560 {
			t.Fatalf("at %d: %d", i, v)
		}
	}
}

// P14.2: nothing is below 0 or beyond the bound, of values of all kinds.
func TestBound(t *testing.T) {
	var x noise
	one := made(t)
	for kind := range kinds {
		within(t, one.Block(x.row(kind, 100000)...))
	}
	for _, a := range edges() {
		within(t, one.Block(times(a, 40)...))
		for _, b := range edges() {
			within(t, one.Block(slices.Concat(times(a, 31), []int64{b}, times(a, 31))...))
		}
	}
}

// P14.2: the bound is met by thirty times Clamp, and whatever counts as it, step by step, and stays met; of a little less it is not, and of all below 0 it is 0.
func TestBoundMet(t *testing.T) {
	for _, v := range []int64{clamp, clamp + 1, 1 << 40, most} {
		one := made(t)
		for i := range 35 {
			want := int64(2097152 * min(i+1, 30))
			if got := one.Push(v); got != want {
				t.Fatalf("%d, %d times: %d; want %d", v, i+1, got, want)
			}
		}
		lastIs(t, one, 62914560)
		// One less by 1 among them, and it is not met till that is thirty steps ago.
		answers(t, one, append([]int64{clamp - 1}, times(v, 31)...), append(times(62914559, 30), 62914560, 62914560)...)
	}
	got := made(t).Block(times(clamp-1, 33)...)
	if want := []int64{60817407, 62914559, 62914559, 62914559, 62914559}; !slices.Equal(got[28:], want) {
		t.Errorf("one less than Clamp: %v at the end; want %v", got[28:], want)
	}
	for _, v := range []int64{0, -1, -32, -clamp, -1 << 40, least} {
		answers(t, made(t), times(v, 40), times(0, 40)...)
	}
}

// P14.2: nor of those at the bounds, in very many orders; both bounds are met.
func TestBoundInManyOrders(t *testing.T) {
	var x noise
	one := heldOf(t)
	lowest, highest := int64(bound), int64(0)
	for range 3000 {
		row := make([]int64, 60)
		// Mostly of one kind, so that rows come near the bounds.
		at, few := x.upTo(2), 1+x.upTo(40)
		for i := range row {
			row[i] = int64(at) * clamp
			if x.upTo(few) == 1 {
				row[i] = int64(x.upTo(2))*clamp + x.near(1)
			}
		}
		one.reset(t)
		got := one.Block(row...)
		one.came = row
		lastIs(t, one.Window, comesTo(row))
		within(t, got)
		lowest, highest = min(lowest, got[59]), max(highest, got[59])
	}
	if lowest != 0 || highest != bound {
		t.Errorf("from %d to %d", lowest, highest)
	}
}

// walk pushes a row value by value, and holds each answer against the one ahead, by whether less comes than came thirty steps ago. It tells how often less came, and how often not.
func walk(t *testing.T, x *window.Window, row []int64) (less, rest int) {
	t.Helper()
	for i, v := range row {
		ahead, gone := x.Last(), int64(0)
		if i >= 30 {
			gone = row[i-30]
		}
		got := x.Push(v)
		if counts(v) >= counts(gone) {
			rest++
			if got < ahead {
				t.Fatalf("at %d: %d behind %d, though %d came, and %d thirty steps ago", i, got, ahead, v, gone)
			}
		}
		if counts(v) == counts(gone) && got != ahead {
			t.Fatalf("at %d: %d behind %d, though %d came, and %d thirty steps ago, which count the same", i, got, ahead, v, gone)
		}
		if counts(v) < counts(gone) {
			less++
			if got > ahead || counts(gone)-counts(v) >= 32 && got >= ahead {
				t.Fatalf("at %d: %d behind %d, though %d came, and %d thirty steps ago", i, got, ahead, v, gone)
			}
		}
	}
	return less, rest
}

// P14.3: of random values it falls nowhere but where less comes than came thirty steps ago, and there it does, if it is less by 32.
func TestRises(t *testing.T) {
	var x noise
	for kind := range kinds {
		less, rest := walk(t, made(t), x.row(kind, 50000))
		if less < 10000 || rest < 10000 {
			t.Errorf("rows of kind %d: less %d times, else %d", kind, less, rest)
		}
	}
}

// P14.3: of rows in which each value is as the one thirty steps ago, a little more, or a little less.
func TestRisesALittle(t *testing.T) {
	var x noise
	for kind := range kinds {
		row := x.row(kind, 30)
		for i := range 20000 {
			v := min(max(row[i], -clamp), 2*clamp) + x.near(40)
			if x.upTo(2) == 0 {
				v = row[i]
			}
			row = append(row, v)
		}
		walk(t, made(t), row)
	}
}

// P14.3: in the first thirty steps it never falls: whatever comes is not less than nothing.
func TestRisesAtFirst(t *testing.T) {
	var x noise
	for range 500 {
		got := made(t).Block(x.row(x.upTo(kinds), 30)...)
		if !slices.IsSorted(got) {
			t.Fatalf("the first thirty: %v", got)
		}
	}
}

// P14.3: values that count the same are not less than each other, on either side: it stays where it is.
func TestTheSame(t *testing.T) {
	var x noise
	below := []int64{0, -1, -32, -5000, -clamp, -1 << 40, least}
	above := []int64{clamp, clamp + 1, clamp + 32, 2 * clamp, 1 << 40, most}
	for _, same := range [][]int64{below, above} {
		for _, first := range same {
			for _, second := range same {
				one := made(t)
				one.Push(first)
				stays := one.Block(x.row(mixed, 29)...)[28]
				if got := one.Push(second); got != stays {
					t.Fatalf("%d, and thirty steps later %d: %d behind %d", first, second, got, stays)
				}
			}
		}
	}
	// The same row over and over: it goes on as it was.
	for kind := range kinds {
		row := x.row(kind, 30)
		one := made(t)
		full := one.Block(row...)[29]
		answers(t, one, slices.Repeat(row, 5), times(full, 150)...)
	}
}

// P14.3: it does fall, where less comes: written out.
func TestFalls(t *testing.T) {
	one := made(t)
	if got := one.Block(times(100, 30)...); got[29] != 93 {
		t.Fatalf("thirty times 100: %v", got)
	}
	answers(t, one, times(0, 32), 90, 87, 84, 81, 78, 75, 71, 68, 65, 62, 59, 56, 53, 50, 46,
		43, 40, 37, 34, 31, 28, 25, 21, 18, 15, 12, 9, 6, 3, 0, 0, 0)
	one.Reset()
	one.Block(times(most, 30)...)
	answers(t, one, []int64{least, clamp - 32, clamp - 1, clamp, most, -1}, 60817408, 60817407, 60817406, 60817406, 60817406, 58720254)
}

// P14.4: what came thirty steps ago, and more, plays no part, whatever it was and however much.
func TestForgotten(t *testing.T) {
	var x noise
	for _, v := range edges() {
		for many := range 65 {
			tail := x.row(2, 30)
			one, other := made(t), made(t)
			one.Block(times(v, many)...)
			one.Block(tail[:29]...)
			other.Block(tail[:29]...)
			if got, want := one.Push(tail[29]), other.Push(tail[29]); got != want {
				t.Fatalf("behind %d times %d, and %v: %d; want %d", many, v, tail, got, want)
			}
		}
	}
}

// P14.4: two rows that differ ahead of the thirty last values, or at the edge of them, answer alike from there on.
func TestAlikeFromTheThirtiethOn(t *testing.T) {
	var x noise
	for range 300 {
		one, other := made(t), made(t)
		one.Block(x.row(mixed, x.upTo(70))...)
		other.Block(x.row(mixed, x.upTo(70))...)
		tail := x.row(mixed, 80)
		one.Block(tail[:29]...)
		other.Block(tail[:29]...)
		answers(t, one, tail[29:], other.Block(tail[29:]...)...)
	}
}

// P14.4: what came 29 steps ago plays a part still, and so does each one behind it; what came thirty steps ago none any more.
func TestTwentyNineStepsAgo(t *testing.T) {
	for _, v := range []int64{32, 1000, clamp, most} {
		for steps := range 40 {
			x := made(t)
			x.Block(times(0, 50)...)
			x.Push(v)
			x.Block(times(0, steps)...)
			// So many zeros came that one more makes it steps + 1 ago.
			if got := x.Push(0); (got != 0) != (steps+1 <= 29) {
				t.Errorf("%d, %d steps ago: %d", v, steps+1, got)
			}
		}
	}
}

// After very many values of all kinds the answers are still those of the thirty last ones.
func TestVeryMany(t *testing.T) {
	var x noise
	one := made(t)
	var last []int64
	for i := range 2000000 {
		v := x.row(i>>10%kinds, 1)[0]
		if len(last) == 30 {
			copy(last, last[1:])
			last = last[:29]
		}
		last = append(last, v)
		if got, want := one.Push(v), comesTo(last); got != want || one.Last() != want {
			t.Fatalf("at %d, behind %v: %d, and Last %d; want %d", i, last, got, one.Last(), want)
		}
	}
}

// Two windows go each its own way.
func TestTwo(t *testing.T) {
	var x noise
	one, other := heldOf(t), heldOf(t)
	for range 300 {
		one.block(t, x.row(mixed, x.upTo(9))...)
		other.block(t, x.row(mixed, x.upTo(9))...)
		lastIs(t, one.Window, comesTo(one.came))
		one.push(t, x.square())
		other.push(t, x.square())
		lastIs(t, one.Window, comesTo(one.came))
		if x.upTo(20) == 0 {
			other.reset(t)
			lastIs(t, one.Window, comesTo(one.came))
		}
	}
}

// R4: what is handed in is as it was, and nothing behind its length is read or written.
func TestArgumentsStay(t *testing.T) {
	room := []int64{90000000, -80000, 500, 40, 3, 2, 1}
	h := heldOf(t)
	h.block(t, room[:4]...)
	h.block(t, room[:0]...)
	h.block(t, room[3:6]...)
	if want := []int64{90000000, -80000, 500, 40, 3, 2, 1}; !slices.Equal(room, want) {
		t.Fatalf("the argument is %v", room)
	}
}

// R4: nothing that is handed in is kept: whoever handed it in may change it.
func TestArgumentsAreNotKept(t *testing.T) {
	row := []int64{9000, -8000, 7000, 6000}
	h := heldOf(t)
	h.block(t, row...)
	h.came = slices.Clone(h.came)
	for i := range row {
		row[i] = 31111
	}
	h.block(t, times(0, 32)...)
}

// R4: what is answered is new memory: whoever gets it may change it, and put more behind it.
func TestAnswersAreNew(t *testing.T) {
	row := []int64{9000, -8000, 7000, 6000, 500, 600}
	h := heldOf(t)
	first := h.Block(row[:4]...)
	kept := slices.Clone(first)
	second := h.Block(row[4:]...)
	h.came = slices.Clone(row)
	for i := range second {
		second[i] = 29999
	}
	second = append(second, 28888)
	if !slices.Equal(first, kept) {
		t.Fatalf("the first answer is %v; was %v", first, kept)
	}
	first = first[:cap(first)]
	for i := range first {
		first[i] = 27777
	}
	if want := []int64{9000, -8000, 7000, 6000, 500, 600}; !slices.Equal(row, want) {
		t.Fatalf("the argument is %v", row)
	}
	if want := []int64{29999, 29999, 28888}; !slices.Equal(second, want) {
		t.Fatalf("the second answer is %v", second)
	}
	lastIs(t, h.Window, comesTo(h.came))
	h.block(t, slices.Concat([]int64{0, 1, 2, 3, 4}, times(0, 32))...)
}
