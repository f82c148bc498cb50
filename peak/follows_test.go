package peak_test

import (
	"slices"
	"testing"

	"systole/api"
	"systole/peak"
)

// pushed is what a new finder told of a row, step by step.
type pushed struct {
	peaks []api.Peak
	// Of each peak: the step behind which it was rising.
	began []int
}

// pushAll pushes a row into a new finder.
func pushAll(t *testing.T, w, d []int64) pushed {
	t.Helper()
	f := made(t)
	var all pushed
	began, rising := 0, false
	for i := range w {
		p, ok := f.Push(w[i], d[i])
		if ok {
			if !rising || f.Rising() {
				t.Fatalf("at %d: a peak, though it was rising ahead of it %v, and behind it %v", i, rising, f.Rising())
			}
			all.peaks = append(all.peaks, p)
			all.began = append(all.began, began)
		}
		if !ok && rising && !f.Rising() {
			t.Fatalf("at %d: it does not rise any more, but there is no peak", i)
		}
		if f.Rising() && !rising {
			began = i
		}
		rising = f.Rising()
	}
	return all
}

// P16.3: of each peak no sum from where it began to rise up to Seen is above Top, the one at At is as Top, none ahead of it is, and the one at Seen is below half of it, and none ahead of that, from At on.
func TestEachPeak(t *testing.T) {
	var x noise
	for kind := range kinds {
		w, d := x.rows(kind, 20000)
		all := pushAll(t, w, d)
		if len(all.peaks) < 100 {
			t.Errorf("rows of kind %d: only %d peaks", kind, len(all.peaks))
		}
		for i, p := range all.peaks {
			if int(p.At) < all.began[i] || p.Seen <= p.At || p.Top <= 64 || p.Top > bound || p.Steep < 0 || p.Steep > steep {
				t.Fatalf("peak %d: %v, which began to rise at %d", i, p, all.began[i])
			}
			for n := all.began[i]; n <= int(p.Seen); n++ {
				sum := counts(w[n])
				if sum > p.Top || n < int(p.At) && sum == p.Top || n == int(p.At) && sum != p.Top {
					t.Fatalf("peak %d: %v, but at %d there is %d", i, p, n, sum)
				}
				if n > int(p.At) && (2*sum < p.Top) != (n == int(p.Seen)) {
					t.Fatalf("peak %d: %v, but at %d there is %d", i, p, n, sum)
				}
			}
		}
	}
}

// P16.4: of two peaks the second one's At is behind the first one's Seen: so is where it began to rise.
func TestApart(t *testing.T) {
	var x noise
	for kind := range kinds {
		next := 0
		for range 10 {
			w, d := x.rows(kind, 5000)
			all := pushAll(t, w, d)
			for i := 1; i < len(all.peaks); i++ {
				ahead, p := all.peaks[i-1], all.peaks[i]
				if p.At <= ahead.Seen || all.began[i] <= int(ahead.Seen) {
					t.Fatalf("%v behind %v, which was seen there; it began to rise at %d", p, ahead, all.began[i])
				}
				if p.At == ahead.Seen+1 {
					next++
				}
			}
		}
		if kind < 3 && next < 100 {
			t.Errorf("rows of kind %d: only %d peaks stand just behind what was seen", kind, next)
		}
	}
}

// quiet looks for a peak of sums of which there must be none, with slopes of all kinds.
func quiet(t *testing.T, w []int64) {
	t.Helper()
	_, d := new(noise).rows(0, len(w))
	if all := pushAll(t, w, d); len(all.peaks) > 0 {
		t.Fatalf("of %v: %v", last(w, 30), all.peaks)
	}
	if l := peak.All(w, d); len(l) > 0 {
		t.Fatalf("All of %v: %v", last(w, 30), l)
	}
}

// P16.5: sums that are all 0, or all the same, have no peak, and do not even rise.
func TestQuiet(t *testing.T) {
	for _, v := range append(edges(), 0, 5, 1000, 12345678) {
		quiet(t, times(v, 500))
		h := heldOf(t)
		for i := range 50 {
			h.push(t, v, int64(i)*9000)
			stands(t, h.Finder, false, i+1)
		}
	}
	// These are unlike, but all of them count as 0, or as the bound.
	quiet(t, slices.Repeat([]int64{0, -1, least, -65, -bound, -1<<32 + 500}, 50))
	quiet(t, slices.Repeat([]int64{bound, bound + 1, most, 2 * bound, 1 << 40, 1<<32 + 5}, 50))
}

// P16.5: sums that never fall have no peak, however far they rise, and however long.
func TestNeverFalls(t *testing.T) {
	var x noise
	for kind := range kinds {
		for _, size := range []int{2, 3, 10, 100, 2000} {
			w, _ := x.rows(kind, size)
			slices.Sort(w)
			quiet(t, w)
		}
	}
	e := edges()
	slices.Sort(e)
	quiet(t, e)
	var steps []int64
	for i := range int64(5000) {
		steps = append(steps, i/3)
	}
	quiet(t, steps)
	for first := range int64(200) {
		var doubles []int64
		for w := first; w < 2*bound; w = 2*w + 65 {
			doubles = append(doubles, w, w)
		}
		quiet(t, doubles)
	}
}

// P16.5: nor have sums that fall, but never rise; and of one that rises, and then is no less than half, there is none yet.
func TestNeverRises(t *testing.T) {
	var x noise
	for kind := range kinds {
		w, _ := x.rows(kind, 2000)
		slices.Sort(w)
		slices.Reverse(w)
		quiet(t, w)
	}
	for top := int64(65); top < 2000; top++ {
		quiet(t, slices.Concat([]int64{0}, slices.Repeat([]int64{top, (top + 1) / 2, top - 1}, 3)))
	}
}
