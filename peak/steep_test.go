package peak_test

import (
	"slices"
	"testing"
)

// P16.1: the greatest distance of a slope from 0 counts from the step at which it begins to rise up to that at which the peak is seen, both among them, and no other one; of either sign.
func TestSteepest(t *testing.T) {
	w := []int64{500, 2, 60, 100, 300, 250, 200, 149, 20, 10}
	how := "___////___"
	for place := range w {
		for _, far := range []int64{90, -90, 8, -8, steep, -steep, most, least} {
			for _, rest := range []int64{7, -7, 0} {
				d := times(rest, len(w))
				d[place] = far
				want := distance(rest)
				if place >= 3 && place <= 7 {
					want = distance(far)
				}
				anew(t, w, d, how, at(4, 7, 300, want))
			}
		}
	}
}

// P16.1: of slopes of either sign that rise, fall, or are all the same, wherever the greatest distance is; written out.
func TestSteepestOfMany(t *testing.T) {
	for _, c := range []struct {
		d    []int64
		want int64
	}{
		{nil, 0}, {[]int64{1}, 1}, {[]int64{-1}, 1}, {[]int64{0, 0, 0, 1}, 1}, {[]int64{0, 0, 0, -1}, 1},
		{[]int64{9, 3, 4, 5}, 9}, {[]int64{-9, 3, 4, 5}, 9}, {[]int64{3, 9, 4, 5}, 9}, {[]int64{3, -9, 4, 5}, 9}, {[]int64{3, 4, 5, 9}, 9}, {[]int64{3, 4, 5, -9}, 9},
		{[]int64{9, -9, 9, -9}, 9}, {[]int64{9, -10, 9, 8}, 10}, {[]int64{-9, 10, 9, 8}, 10}, {[]int64{-10, 9, 8, 7}, 10}, {[]int64{5, 5, 5, 5}, 5}, {[]int64{-5, -5, -5, -5}, 5},
		{[]int64{1, 2, 3, 4}, 4}, {[]int64{-1, -2, -3, -4}, 4}, {[]int64{4, 3, 2, 1}, 4}, {[]int64{-4, -3, -2, -1}, 4},
	} {
		d := append(slices.Concat([]int64{1000}, c.d, times(0, 4-len(c.d))), 2000)
		anew(t, []int64{0, 100, 120, 110, 40, 30}, d, "_///__", at(2, 4, 120, c.want))
	}
}

// P16.1: of many peaks in a row each has its own: neither what was steep in the one ahead, at the step at which that was seen, nor while it was falling plays a part.
func TestSteepestOfEach(t *testing.T) {
	w := []int64{0, 100, 200, 60, 30, 20, 150, 40, 500, 200, 2000, 900, 0, 70, 30}
	d := []int64{-1, 5, 300, 20, 800, 900, -6, 2, 4, 700, -50, 51, -1000, -1, 0}
	anew(t, w, d, "_//___/_/_/__/_", at(2, 3, 200, 300), at(6, 7, 150, 6), at(8, 9, 500, 700), at(10, 11, 2000, 51), at(13, 14, 70, 1))
	// It begins to rise again at the very step behind the one at which a peak was seen.
	anew(t, []int64{0, 300, 100, 265, 100, 265, 100}, []int64{40, -30, 20, 10, 0, 5, -6}, "_/_/_/_", at(1, 2, 300, 30), at(3, 4, 265, 10), at(5, 6, 265, 6))
	anew(t, []int64{0, 300, 100, 265, 100, 265, 100}, []int64{0, 0, 20, 0, 0, 0, 0}, "_/_/_/_", at(1, 2, 300, 20), at(3, 4, 265, 0), at(5, 6, 265, 0))
}

// P16.1: slopes of either sign, of 0, at, just within and just beyond BoundSlope, and at the ends of the range of 64 bits, as the first one since it rises, between, and as the last one; written out.
func TestSlopesNearest(t *testing.T) {
	for _, c := range []struct{ d, want int64 }{
		{0, 0}, {1, 1}, {-1, 1}, {2, 2}, {-2, 2}, {5000, 5000}, {-5000, 5000},
		{107134, 107134}, {-107134, 107134}, {107135, 107135}, {-107135, 107135}, {107136, 107136}, {-107136, 107136}, {107137, 107136}, {-107137, 107136}, {107138, 107136}, {-107138, 107136},
		{1 << 17, 107136}, {-1 << 17, 107136}, {1<<31 - 1, 107136}, {1 << 31, 107136}, {-1 << 31, 107136}, {1<<32 - 1, 107136}, {1 << 32, 107136}, {1<<32 + 5, 107136}, {-1 << 32, 107136}, {-1<<32 + 5, 107136},
		{1 << 40, 107136}, {-1 << 40, 107136}, {1 << 62, 107136}, {-1 << 62, 107136}, {most - 1, 107136}, {most, 107136}, {least + 2, 107136}, {least + 1, 107136}, {least, 107136},
	} {
		for place := range 4 {
			d := times(0, 4)
			d[place] = c.d
			anew(t, []int64{0, 100, 90, 49}, d, "_//_", at(1, 3, 100, c.want*int64(min(place, 1))))
		}
		anew(t, []int64{0, 100, 49}, times(c.d, 3), "_/_", at(1, 2, 100, c.want))
		anew(t, []int64{0, 100, 49}, []int64{steep, c.d, 107136}, "_/_", at(1, 2, 100, 107136))
		anew(t, []int64{0, 100, 49}, []int64{steep, 107135, c.d}, "_/_", at(1, 2, 100, max(c.want, 107135)))
	}
}

// P16.1: it is slopes alone that it hangs on, not sums; and where peaks are does not hang on slopes.
func TestSlopesTurnNothing(t *testing.T) {
	var x noise
	for kind := range kinds {
		w, d := x.rows(kind, 3000)
		for _, flat := range []int64{0, 1, -1, steep, least, most} {
			want := said(w, d)
			for i := range want {
				want[i].Steep = distance(flat)
			}
			f := made(t)
			for i, sum := range w {
				if p, ok := f.Push(sum, flat); ok {
					if p != want[0] {
						t.Fatalf("at %d: %v; want %v", i, p, want[0])
					}
					want = want[1:]
				}
			}
			if len(want) > 0 {
				t.Fatalf("%d peaks are missing: %v", len(want), want[0])
			}
		}
	}
}
