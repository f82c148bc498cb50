package slope_test

import (
	"slices"
	"testing"
)

// within looks for what is beyond BoundSlope.
func within(t *testing.T, l []int64) {
	t.Helper()
	for i, v := range l {
		if v < -107136 || v > 107136 {
			t.Fatalf("at %d: %d", i, v)
		}
	}
}

// P13.3: nothing is beyond the bound, of values of all kinds.
func TestBound(t *testing.T) {
	var x noise
	one := made(t)
	for kind := range kinds {
		within(t, one.Block(x.row(kind, 100000)...))
	}
	for _, a := range edges() {
		for _, b := range edges() {
			within(t, one.Block(a, a, a, b, b, b, b, b, a, a, a, b, a, a))
		}
	}
}

// P13.3: the bounds are met where the two last ones are at one bound, and the two of three and four steps ago at the other one, whatever stands between.
func TestBoundMet(t *testing.T) {
	for _, far := range []int64{bound, bound + 1, 1 << 40, most} {
		for _, between := range edges() {
			x := made(t)
			if got := x.Block(-far, -far, between, far, far); got[4] != 107135 {
				t.Errorf("up to %d, past %d: %v", far, between, got)
			}
			if got := x.Block(far, far, between, -far, -far); got[4] != -107136 {
				t.Errorf("down to %d, past %d: %v", -far, between, got)
			}
		}
	}
	// Of all that is less far, or elsewhere, no more than that.
	answers(t, made(t), []int64{-bound, -bound, 0, bound, bound, bound, bound, bound, bound},
		-35712, -53568, -17856, 53567, 107135, 89279, 35711, 0, 0)
	answers(t, made(t), []int64{bound, bound, 0, -bound, -bound, -bound, -bound, -bound, -bound},
		35711, 53567, 17855, -53568, -107136, -89280, -35712, 0, 0)
}

// P13.3: of each row of nine that are at a bound, at 0, or just within a bound; the greatest that is met is 107135, and the least one -107136.
func TestBoundInAllOrders(t *testing.T) {
	var lowest, highest int64
	one := made(t)
	at := []int64{-bound, bound, 0, bound - 1, 1 - bound}
	for n := range 5 * 5 * 5 * 5 * 5 {
		one.Reset()
		got := one.Block(at[n%5], at[n/5%5], at[n/25%5], at[n/125%5], at[n/625], at[n%5], at[n/625])
		within(t, got)
		lowest, highest = min(lowest, slices.Min(got)), max(highest, slices.Max(got))
	}
	if lowest != -107136 || highest != 107135 {
		t.Errorf("from %d to %d", lowest, highest)
	}
}

// rises are by how much lines rise, or fall, in each step: numbers that can be divided by 4. By 71420 there are just five values within the bounds.
func rises() []int64 {
	l := []int64{0, 4, 8, 12, 100, 1000, 1004, 8192, 20000, 40812, 57136, 71416, 71420}
	for _, v := range l {
		l = append(l, -v)
	}
	return l
}

// rising are values from a first one on, up to so many, as far as they are within the bounds.
func rising(first, rise int64, many int) []int64 {
	var l []int64
	for v := first; len(l) < many && -bound <= v && v <= bound; v += rise {
		l = append(l, v)
	}
	return l
}

// P13.4: of lines it is 5 fourths of the rise, from the fifth value on, whatever came ahead.
func TestLines(t *testing.T) {
	var x noise
	seen := 0
	for _, rise := range rises() {
		for _, first := range []int64{0, 1, -1, 3, -3, 5000, bound, bound - 1, -bound, 1 - bound, bound - 4*rise, -bound - 4*rise} {
			for kind := range kinds {
				one := made(t)
				one.Block(x.row(kind, x.upTo(12))...)
				got := one.Block(rising(first, rise, 300)...)
				if len(got) < 5 {
					continue
				}
				seen++
				for i, d := range got[4:] {
					if d != 5*rise/4 {
						t.Fatalf("a rise by %d from %d on, at %d: %d", rise, first, i+4, d)
					}
				}
			}
		}
	}
	if seen < 500 {
		t.Errorf("%d lines are too few", seen)
	}
}

// P13.4: of each rise near 0, from each of some values on.
func TestSmallLines(t *testing.T) {
	one := made(t)
	for rise := int64(-400); rise <= 400; rise += 4 {
		for first := int64(-20); first <= 20; first++ {
			got := one.Block(rising(first, rise, 9)...)
			for i, d := range got[4:] {
				if d != 5*rise/4 {
					t.Fatalf("a rise by %d from %d on, at %d: %d", rise, first, i+4, d)
				}
			}
		}
	}
}

// P13.4: up to the bounds themselves, from the one to the other, and as far as the values are still on the line; and behind what is beyond the bounds.
func TestLinesToTheBounds(t *testing.T) {
	// Four steps of 71420 come to 285680, which is 14 less than it is from the one bound to the other.
	answers(t, made(t), []int64{-142847, -71427, -7, 71413, 142833}, -35712, -35713, -8931, 35708, 89275)
	answers(t, made(t), []int64{-142833, -71413, 7, 71427, 142847, 142847}, -35709, -35708, -8925, 35711, 89275, 71420)
	answers(t, made(t), []int64{142847, 71427, 7, -71413, -142833}, 35711, 35712, 8930, -35709, -89275)
	answers(t, made(t), []int64{most, least, most, least, most, -142847, -142843, -142839, -142835, -142831, -142827},
		35711, -17856, 17855, -35712, 0, 0, -71423, -35710, -71420, 5, 5)
	// A value on the line that is beyond the bound counts less.
	answers(t, made(t), []int64{142831, 142835, 142839, 142843, 142847, 142851, 142855},
		35707, 53562, 53564, 35711, 5, 4, 2)
}

// P13.4: a line is not one yet at the fourth value, behind another one.
func TestTheFifth(t *testing.T) {
	for _, rise := range []int64{4, -4, 100, -100, 4000, -4000} {
		for _, ahead := range []int64{-5000, 5000, most, least} {
			x := made(t)
			x.Block(ahead, ahead, ahead, ahead, ahead)
			got := x.Block(rising(0, rise, 6)...)
			// What came ahead of the line stands in what is told of its fourth value twice.
			want := floor(6*rise+2*rise-2*counts(ahead), 8)
			if got[3] != want || got[4] != 5*rise/4 || got[5] != 5*rise/4 {
				t.Errorf("a rise by %d behind %d: %v; want %d at the fourth", rise, ahead, got, want)
			}
		}
	}
}

// What came five steps ago, and more, plays no part: of very many values of all kinds the answers are those of the five last ones.
func TestVeryMany(t *testing.T) {
	var x noise
	one := made(t)
	var last []int64
	for i := range 3000000 {
		v := x.row(i>>10%kinds, 1)[0]
		if len(last) == 5 {
			copy(last, last[1:])
			last = last[:4]
		}
		last = append(last, v)
		if got, want := one.Push(v), comesTo(last); got != want {
			t.Fatalf("at %d, behind %v: %d; want %d", i, last, got, want)
		}
	}
}

// What came four steps ago plays a part still; what came five steps ago none any more, nor does what came two steps ago.
func TestFourStepsAgo(t *testing.T) {
	for _, v := range []int64{8, -8, 1000, -1000, bound, -bound, most, least} {
		for steps := range 9 {
			x := made(t)
			x.Block(make([]int64, 9)...)
			x.Push(v)
			x.Block(make([]int64, steps)...)
			// So many zeros came that one more makes it steps + 1 ago.
			if got := x.Push(0); (got != 0) != (steps+1 == 1 || steps+1 == 3 || steps+1 == 4) {
				t.Errorf("%d, %d steps ago: %d", v, steps+1, got)
			}
		}
	}
}

// Two filters go each its own way.
func TestTwo(t *testing.T) {
	var x noise
	one, other := heldOf(t), heldOf(t)
	for range 300 {
		one.block(t, x.row(4, x.upTo(4))...)
		other.block(t, x.row(4, x.upTo(4))...)
		one.push(t, x.near(150000))
		other.push(t, x.near(150000))
		if x.upTo(10) == 0 {
			other.reset()
		}
	}
}

// R4: what is handed in is as it was, and nothing behind its length is read or written.
func TestArgumentsStay(t *testing.T) {
	room := []int64{150000, -150000, 500, 40, 3, 2, 1}
	h := heldOf(t)
	h.block(t, room[:4]...)
	h.block(t, room[:0]...)
	h.block(t, room[3:6]...)
	if want := []int64{150000, -150000, 500, 40, 3, 2, 1}; !slices.Equal(room, want) {
		t.Fatalf("the argument is %v", room)
	}
}

// R4: nothing that is handed in is kept: whoever handed it in may change it.
func TestArgumentsAreNotKept(t *testing.T) {
	row := []int64{9000, -8000, 7000, 6000}
	h := heldOf(t)
	h.block(t, row...)
	h.came = slices.Clone(h.came)
	for i := range row {
		row[i] = 31111
	}
	h.block(t, make([]int64, 7)...)
}

// R4: what is answered is new memory: whoever gets it may change it, and put more behind it.
func TestAnswersAreNew(t *testing.T) {
	row := []int64{9000, -8000, 7000, 6000, 500, 600}
	h := heldOf(t)
	first := h.Block(row[:4]...)
	kept := slices.Clone(first)
	second := h.Block(row[4:]...)
	h.came = slices.Clone(row)
	for i := range second {
		second[i] = 29999
	}
	second = append(second, 28888)
	if !slices.Equal(first, kept) {
		t.Fatalf("the first answer is %v; was %v", first, kept)
	}
	first = first[:cap(first)]
	for i := range first {
		first[i] = 27777
	}
	if want := []int64{9000, -8000, 7000, 6000, 500, 600}; !slices.Equal(row, want) {
		t.Fatalf("the argument is %v", row)
	}
	if want := []int64{29999, 29999, 28888}; !slices.Equal(second, want) {
		t.Fatalf("the second answer is %v", second)
	}
	h.block(t, 0, 1, 2, 3, 4, 0, 0, 0, 0, 0)
}
