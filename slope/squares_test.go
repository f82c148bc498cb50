package slope_test

import (
	"math/big"
	"slices"
	"testing"

	"systole/slope"
)

// squared looks at the square of a number, and at that of its opposite.
func squared(t *testing.T, d, want int64) {
	t.Helper()
	for _, d := range []int64{d, -d} {
		if got := slope.Square(d); got != want {
			t.Errorf("Square(%d): %d; want %d", d, got, want)
		}
	}
}

// P13.2: squares around Clamp, and of numbers whose squares don't fit 64 bits: written out.
func TestSquare(t *testing.T) {
	for _, c := range []struct{ d, want int64 }{
		{0, 0}, {1, 1}, {2, 4}, {3, 9}, {100, 10000}, {4096, 16777216}, {5792, 33547264},
		{8190, 67076100}, {8191, 67092481}, {8192, clamp}, {8193, clamp}, {8194, clamp},
		{10000, clamp}, {32768, clamp}, {46340, clamp}, {46341, clamp}, {65535, clamp}, {65536, clamp}, {65537, clamp}, {107136, clamp},
		{1<<31 - 1, clamp}, {1 << 31, clamp}, {3037000499, clamp}, {3037000500, clamp},
		{1<<32 - 1, clamp}, {1 << 32, clamp}, {1<<32 + 1, clamp}, {1<<32 + 5, clamp}, {3 << 32, clamp}, {1 << 33, clamp}, {1 << 40, clamp},
		{1 << 48, clamp}, {1 << 60, clamp}, {1<<62 - 1, clamp}, {1 << 62, clamp}, {1<<62 + 1, clamp},
		{most - 8190, clamp}, {most - 2, clamp}, {most - 1, clamp}, {most, clamp}, {least + 1, clamp}, {least, clamp},
	} {
		squared(t, c.d, c.want)
	}
}

// P13.2: each number near those at which a square reaches Clamp, and all from there to 0.
func TestSquareOfEach(t *testing.T) {
	for d := range int64(20000) {
		want := d * d
		if d > 8191 {
			want = clamp
		}
		squared(t, d, want)
	}
}

// P13.2: squares of numbers of any size, and of the edges, reckoned as if numbers had no end.
func TestSquareOfAnySize(t *testing.T) {
	var x noise
	l := append(edges(), x.row(3, 200000)...)
	for _, v := range edges() {
		for near := range int64(40) {
			// Beyond an end they wrap round to the other one, and are as good there.
			l = append(l, v+near-20)
		}
	}
	for _, d := range l {
		if got, want := slope.Square(d), squareOf(d); got != want {
			t.Fatalf("Square(%d): %d; want %d", d, got, want)
		}
	}
}

// P13.2: numbers of which the square, if it wrapped round, would be a small number, or one below 0.
func TestSquareThatWouldWrapRound(t *testing.T) {
	small, below := 0, 0
	for k := range int64(20000) {
		// Just above the root of k times 2^64.
		whole := new(big.Int).Lsh(big.NewInt(k+1), 64)
		d := whole.Sqrt(whole).Int64()
		for _, d := range []int64{d, d + 1, d + d/2} {
			switch wrapped := d * d; {
			case wrapped < 0:
				below++
			case wrapped < clamp:
				small++
			}
			squared(t, d, clamp)
		}
	}
	if small < 20 || below < 20 {
		t.Errorf("%d small ones, %d below 0: too few are looked at", small, below)
	}
}

// P13.2: the greatest distance from 0, wherever it stands: written out.
func TestSteepest(t *testing.T) {
	for _, c := range []struct {
		l    []int64
		want int64
	}{
		{nil, 0}, {[]int64{}, 0}, {[]int64{0}, 0}, {[]int64{0, 0, 0}, 0},
		{[]int64{7}, 7}, {[]int64{-7}, 7}, {[]int64{1}, 1}, {[]int64{-1}, 1},
		{[]int64{9, 3, 4}, 9}, {[]int64{3, 9, 4}, 9}, {[]int64{3, 4, 9}, 9},
		{[]int64{-9, -3, -4}, 9}, {[]int64{-3, -9, -4}, 9}, {[]int64{-3, -4, -9}, 9},
		{[]int64{-9, 3, 4}, 9}, {[]int64{3, -9, 4}, 9}, {[]int64{3, 4, -9}, 9},
		{[]int64{9, -3, -4}, 9}, {[]int64{-3, 9, -4}, 9}, {[]int64{-3, -4, 9}, 9},
		{[]int64{9, -9}, 9}, {[]int64{-9, 9}, 9}, {[]int64{9, -10}, 10}, {[]int64{-9, 10}, 10}, {[]int64{-10, 9}, 10}, {[]int64{10, -9}, 10},
		{[]int64{0, -5, 0}, 5}, {[]int64{0, 0, 5}, 5}, {[]int64{5, 5, 5, 5}, 5}, {[]int64{-5, -5}, 5},
		{[]int64{107135, -107136}, 107136}, {[]int64{1 << 32, 5}, 1 << 32}, {[]int64{5, -1 << 40}, 1 << 40},
		{[]int64{most}, most}, {[]int64{-most}, most}, {[]int64{most - 1, -most}, most}, {[]int64{most - 1, 1 - most}, most - 1},
		{[]int64{least}, most}, {[]int64{least, least}, most}, {[]int64{least, 3, -9}, most}, {[]int64{3, least, -9}, most}, {[]int64{3, -9, least}, most},
		{[]int64{0, least}, most}, {[]int64{least, most}, most}, {[]int64{most, least}, most}, {[]int64{-most, least}, most}, {[]int64{least, 0}, most},
	} {
		if got := slope.Steepest(c.l...); got != c.want {
			t.Errorf("Steepest of %v: %d; want %d", c.l, got, c.want)
		}
	}
}

// P13.2: the distance of each edge alone, and of each with each other one.
func TestSteepestOfEdges(t *testing.T) {
	for _, a := range edges() {
		if got, want := slope.Steepest(a), steepestOf([]int64{a}); got != want {
			t.Errorf("Steepest of %d: %d; want %d", a, got, want)
		}
		for _, b := range edges() {
			if got, want := slope.Steepest(a, b), steepestOf([]int64{a, b}); got != want {
				t.Errorf("Steepest of %d and %d: %d; want %d", a, b, got, want)
			}
		}
	}
}

// P13.2: rows of all kinds and lengths, of which one number stands out at each place.
func TestSteepestOfRows(t *testing.T) {
	var x noise
	for kind := range kinds {
		for size := range 60 {
			row := x.row(kind, size)
			if got, want := slope.Steepest(row...), steepestOf(row); got != want {
				t.Fatalf("Steepest of %v: %d; want %d", row, got, want)
			}
		}
	}
	for size := 1; size < 40; size++ {
		for at := range size {
			for _, far := range []int64{10, -10, 1 << 40, -1 << 40, most, least} {
				row := x.row(0, size)
				row[at] = far
				if got, want := slope.Steepest(row...), steepestOf([]int64{far}); got != want {
					t.Fatalf("Steepest of %v: %d; want %d", row, got, want)
				}
			}
		}
	}
	long := x.row(3, 300000)
	if got, want := slope.Steepest(long...), steepestOf(long); got != want {
		t.Errorf("Steepest of %d: %d; want %d", len(long), got, want)
	}
}

// R4: what is handed in is as it was, and nothing behind its length is read or written.
func TestSteepestLeavesItsArguments(t *testing.T) {
	room := []int64{3, -9, least, most, 500}
	for _, c := range []struct {
		many int
		want int64
	}{
		{0, 0}, {1, 3}, {2, 9}, {3, most}, {4, most},
	} {
		if got := slope.Steepest(room[:c.many]...); got != c.want {
			t.Errorf("Steepest of the first %d: %d; want %d", c.many, got, c.want)
		}
	}
	if want := []int64{3, -9, least, most, 500}; !slices.Equal(room, want) {
		t.Errorf("the argument is %v", room)
	}
}

// P13.2: nothing is kept from one call to the next one.
func TestNothingIsKept(t *testing.T) {
	for range 3 {
		if got := slope.Steepest(-100, 7); got != 100 {
			t.Errorf("Steepest of -100 and 7: %d", got)
		}
		if got := slope.Steepest(5); got != 5 {
			t.Errorf("Steepest of 5: %d", got)
		}
		if got := slope.Steepest(); got != 0 {
			t.Errorf("Steepest of none: %d", got)
		}
		squared(t, 9000, clamp)
		squared(t, 5, 25)
	}
}
