package notch_test

import (
	"slices"
	"testing"
)

// P10.2: nothing is beyond the bound, of values of all kinds.
func TestBound(t *testing.T) {
	for _, mains := range known() {
		x := made(t, mains)
		for _, row := range rows() {
			for _, v := range x.Block(row...) {
				if v < -65535 || v > 65535 {
					t.Fatalf("mains %d: %d", mains, v)
				}
			}
		}
	}
}

// P10.2: nor of those at the bounds, and beyond them, in each order of four; the bounds are met.
func TestBoundInEachOrder(t *testing.T) {
	l := []int64{bound, -bound, bound - 1, 1 - bound, bound + 1, -bound - 1, most, least, 0}
	for _, mains := range known() {
		h := heldOf(t, mains)
		lowest, highest := int64(0), int64(0)
		for n := range 9 * 9 * 9 * 9 {
			row := []int64{l[n%9], l[n/9%9], l[n/81%9], l[n/729]}
			h.reset(t)
			h.block(t, row...)
			h.Reset()
			for _, v := range h.Block(row...) {
				lowest, highest = min(lowest, v), max(highest, v)
			}
		}
		if lowest != -65535 || highest != 65535 {
			t.Errorf("mains %d: from %d to %d", mains, lowest, highest)
		}
	}
}

// P10.3: the same values in pieces of all lengths, none among them, come to the same as in one Block.
func TestPieces(t *testing.T) {
	var x noise
	for _, mains := range known() {
		for _, row := range rows() {
			whole := made(t, mains).Block(row...)
			for _, far := range []int{1, 2, 4, 7, 300} {
				one := made(t, mains)
				for at := 0; at < len(row); {
					to := min(len(row), at+x.upTo(far+1))
					answers(t, one, row[at:to], whole[at:to]...)
					at = to
				}
			}
		}
	}
}

// P10.3: value by value, by Push, by Block of one, and by both in turn, it is the same.
func TestValueByValue(t *testing.T) {
	for _, mains := range known() {
		for _, row := range rows() {
			whole := made(t, mains).Block(row...)
			pushed, blocks, both := made(t, mains), made(t, mains), made(t, mains)
			for i, v := range row {
				if got := pushed.Push(v); got != whole[i] {
					t.Fatalf("mains %d: Push(%d), at %d: %d; in one Block %d", mains, v, i, got, whole[i])
				}
				answers(t, blocks, row[i:i+1], whole[i])
				if i%2 == 0 {
					answers(t, both, row[i:i+1], whole[i])
				} else if got := both.Push(v); got != whole[i] {
					t.Fatalf("mains %d: Push(%d) behind Block, at %d: %d; in one Block %d", mains, v, i, got, whole[i])
				}
			}
		}
	}
}

// P10.3: each way to cut a short row.
func TestEachCut(t *testing.T) {
	row := []int64{4, -3, most, 0, least, 7, 7, 1, -65535}
	for _, mains := range known() {
		for cuts := range 1 << (len(row) - 1) {
			h := heldOf(t, mains)
			from := 0
			for i := range row {
				if i == len(row)-1 || cuts>>i&1 == 1 {
					h.block(t, row[from:i+1]...)
					h.block(t)
					from = i + 1
				}
			}
		}
	}
}

// P10.4: each value within the bounds is itself from the fourth time on, behind all that came ahead.
func TestEven(t *testing.T) {
	for _, mains := range known() {
		x := made(t, mains)
		for v := int64(-65535); v <= 65535; v++ {
			x.Push(v)
			x.Push(v)
			x.Push(v)
			if got := x.Push(v); got != v {
				t.Fatalf("mains %d: %d for the fourth time: %d", mains, v, got)
			}
		}
	}
}

// P10.4: however often it comes, whatever came ahead: at the bounds, beyond them and near 0.
func TestEvenForLong(t *testing.T) {
	var x noise
	for _, mains := range known() {
		one := made(t, mains)
		for _, v := range edges() {
			for many := range 7 {
				one.Block(x.row(4, many)...)
				for i, got := range one.Block(slices.Repeat([]int64{v}, 12)...) {
					if i >= 3 && got != counts(v) {
						t.Fatalf("mains %d: %d, at %d: %d; want %d", mains, v, i, got, counts(v))
					}
				}
			}
		}
	}
}

// Two notches go each its own way, be they for the same mains or not.
func TestTwo(t *testing.T) {
	var x noise
	for _, a := range known() {
		for _, b := range known() {
			one, other := heldOf(t, a), heldOf(t, b)
			for range 200 {
				one.block(t, x.row(4, x.upTo(4))...)
				other.block(t, x.row(4, x.upTo(4))...)
				one.push(t, x.near(70000))
				other.push(t, x.near(70000))
				if x.upTo(10) == 0 {
					other.reset(t)
				}
			}
		}
	}
}

// R4: what is handed in is as it was, and nothing behind its length is read or written.
func TestArgumentsStay(t *testing.T) {
	for _, mains := range known() {
		room := []int64{70000, -70000, 5, 4, 3, 2, 1}
		h := heldOf(t, mains)
		h.block(t, room[:4]...)
		h.block(t, room[:0]...)
		h.block(t, room[3:6]...)
		if want := []int64{70000, -70000, 5, 4, 3, 2, 1}; !slices.Equal(room, want) {
			t.Fatalf("mains %d: the argument is %v", mains, room)
		}
	}
}

// R4: nothing that is handed in is kept: whoever handed it in may change it.
func TestArgumentsAreNotKept(t *testing.T) {
	for _, mains := range known() {
		row := []int64{900, -800, 700, 600}
		h := heldOf(t, mains)
		h.block(t, row...)
		for i := range row {
			row[i] = 31111
		}
		h.block(t, 0, 0, 0, 0)
	}
}

// R4: what is answered is new memory: whoever gets it may change it, and put more behind it.
func TestAnswersAreNew(t *testing.T) {
	for _, mains := range known() {
		row := []int64{900, -800, 700, 600, 5, 6}
		h := heldOf(t, mains)
		first := h.Block(row[:4]...)
		h.came = slices.Clone(row[:4])
		kept := slices.Clone(first)
		second := h.Block(row[4:]...)
		h.came = append(h.came, row[4:]...)
		for i := range second {
			second[i] = 29999
		}
		second = append(second, 28888)
		if !slices.Equal(first, kept) {
			t.Fatalf("mains %d: the first answer is %v; was %v", mains, first, kept)
		}
		first = first[:cap(first)]
		for i := range first {
			first[i] = 27777
		}
		if want := []int64{900, -800, 700, 600, 5, 6}; !slices.Equal(row, want) {
			t.Fatalf("mains %d: the argument is %v", mains, row)
		}
		if second[0] != 29999 || second[len(second)-1] != 28888 {
			t.Fatalf("mains %d: the second answer is %v", mains, second)
		}
		h.block(t, 0, 1, 2, 3, 4)
	}
}
