package peak_test

import (
	"slices"
	"testing"

	"systole/api"
	"systole/peak"
)

// The chapter's example, and what the limits are.
func TestExample(t *testing.T) {
	anew(t, []int64{0, 100, 300, 200, 149}, nil, "_///_", at(2, 4, 300, 0))
	f := made(t)
	for i, w := range []int64{0, 100, 300, 200} {
		if p, ok := f.Push(w, 0); ok || p != (api.Peak{}) {
			t.Errorf("Push of %d, at %d: %v, %v", w, i, p, ok)
		}
	}
	if p, ok := f.Push(149, 0); !ok || p != at(2, 4, 300, 0) {
		t.Errorf("Push of 149: %v, %v", p, ok)
	}
	if api.Rise != 64 || api.BoundWindow != bound || api.BoundSlope != steep {
		t.Errorf("the limits are %d, %d and %d", api.Rise, api.BoundWindow, api.BoundSlope)
	}
}

// P16.1: a new finder is at step 0, and falling, without a valley, whichever call is the first one.
func TestNew(t *testing.T) {
	stands(t, made(t), false, 0)
	f := made(t)
	f.Reset()
	f.Reset()
	stands(t, f, false, 0)
	anew(t, nil, nil, "")
	for _, v := range edges() {
		goes(t, made(t), 0, []int64{v}, []int64{v}, "_")
		f := made(t)
		f.Reset()
		goes(t, f, 0, []int64{v, 0, 65}, nil, "__/")
	}
}

// P16.2: each call of a finder that no call made, that is nil: nothing is done, and it stays so.
func TestNil(t *testing.T) {
	var f *peak.Finder
	stands(t, f, false, 0)
	for range 2 {
		for _, v := range edges() {
			for _, w := range []int64{0, v, 0} {
				if p, ok := f.Push(w, v); ok || p != (api.Peak{}) {
					t.Fatalf("Push(%d, %d) of nil: %v, %v", w, v, p, ok)
				}
				stands(t, f, false, 0)
			}
		}
		f.Reset()
		stands(t, f, false, 0)
		if f != nil {
			t.Fatal("it is not nil any more")
		}
	}
}

// P16.1: the first sum is the valley by itself: it never rises at once, nor by more sums of the same.
func TestFirst(t *testing.T) {
	for _, v := range edges() {
		anew(t, []int64{v}, []int64{least}, "_")
		anew(t, times(v, 9), times(v, 9), "_________")
		anew(t, []int64{v, 0, 64, 65, 0}, nil, "___/_", at(3, 4, 65, 0))
	}
	for v := range int64(3000) {
		anew(t, []int64{v, v, 2*v + 64, 2*v + 65}, nil, "___/")
	}
}

// P16.1: it begins to rise above twice the valley and Rise, both taken together; written out: the greatest sum at which it does not rise yet.
func TestBegins(t *testing.T) {
	for _, c := range []struct{ valley, stays int64 }{
		{0, 64}, {1, 66}, {2, 68}, {31, 126}, {32, 128}, {33, 130}, {63, 190}, {64, 192}, {65, 194}, {300, 664}, {500, 1064}, {1000000, 2000064},
		{31457214, 62914492}, {31457215, 62914494}, {31457216, 62914496}, {31457217, 62914498}, {31457218, 62914500},
		{31457245, 62914554}, {31457246, 62914556}, {31457247, 62914558}, {-1, 64}, {-64, 64}, {least, 64}, {-bound, 64},
	} {
		for _, w := range []int64{c.stays - 2, c.stays - 1, c.stays} {
			anew(t, []int64{c.valley, w}, nil, "__")
		}
		for _, w := range []int64{c.stays + 1, c.stays + 2} {
			anew(t, []int64{c.valley, w, w, 0}, nil, "_//_", at(1, 3, w, 0))
		}
		for _, w := range []int64{bound, bound + 1, most} {
			anew(t, []int64{c.valley, w, 0}, nil, "_/_", at(1, 2, bound, 0))
		}
		anew(t, []int64{c.valley, c.stays, c.stays - 1, c.stays, c.stays + 1, c.stays}, nil, "____//")
	}
}

// P16.1: above valleys of half of BoundWindow less Rise, and more, no sum is so high that it would rise.
func TestBeginsNowhere(t *testing.T) {
	for _, valley := range []int64{31457248, 31457249, 31457279, 31457280, 31457281, 40000000, bound - 65, bound - 64, bound - 63, bound - 1, bound, bound + 1, 1 << 40, most} {
		anew(t, []int64{valley, bound - 1, bound, bound + 1, 2*bound + 64, 2*bound + 65, 1 << 40, most - 1, most, valley, 0}, nil, "___________")
		// It is but the valley that holds it back.
		anew(t, []int64{valley, most, 31457247, 62914558, 62914559}, nil, "____/")
	}
}

// P16.1: the valley goes down with the sums, and never up; written out.
func TestValley(t *testing.T) {
	anew(t, []int64{500, 1064, 400, 864, 300, 664, 200, 464, 465}, nil, "________/")
	anew(t, []int64{500, 1064, 1065}, nil, "__/")
	anew(t, []int64{300, 664, 500, 664, 400, 301, 300, 664, 665, 333, 332}, nil, "________//_", at(8, 10, 665, 0))
	anew(t, []int64{300, 299, 662, 663}, nil, "___/")
	anew(t, []int64{300, 301, 664, 665}, nil, "___/")
	anew(t, []int64{900, 0, 900}, nil, "__/")
	anew(t, []int64{900, -5, 64, 60, 64, 65}, nil, "_____/")
}

// P16.1: a valley that goes down by one at each step, and what it begins to rise above with it.
func TestValleyStepByStep(t *testing.T) {
	const from = 700
	for to := range int64(from) {
		var w []int64
		how := ""
		for v := int64(from); v >= to; v-- {
			w = append(w, v, 2*v+64)
			how += "__"
		}
		anew(t, append(w, 2*to+65), nil, how+"/")
		anew(t, append(w, 2*to+66, 0), nil, how+"/_", at(int64(len(w)), int64(len(w))+1, 2*to+66, 0))
	}
}

// P16.1: behind a peak the valley is the least sum since it is falling, the one at which the peak was seen among them, and none from ahead of it; written out.
func TestValleyBehindPeak(t *testing.T) {
	for _, c := range []struct {
		w     []int64
		stays int64
	}{
		{[]int64{499}, 1062}, {[]int64{499, 499}, 1062}, {[]int64{499, 900, 1062}, 1062}, {[]int64{400, 499}, 864}, {[]int64{499, 400}, 864},
		{[]int64{499, 400, 864, 499}, 864}, {[]int64{499, 100}, 264}, {[]int64{100, 264, 200, 101}, 264}, {[]int64{0}, 64}, {[]int64{-7}, 64}, {[]int64{1}, 66},
		{[]int64{499, 0}, 64}, {[]int64{0, 30}, 64}, {[]int64{450, 300, 450, 200, 300}, 464},
	} {
		down := "_////" + string(slices.Repeat([]byte{'_'}, len(c.w)))
		ahead := slices.Concat([]int64{3, 700, 1000, 600, 500}, c.w)
		want := at(2, 5, 1000, 0)
		anew(t, append(ahead, c.stays), nil, down+"_", want)
		anew(t, append(ahead, c.stays, c.stays+1), nil, down+"_/", want)
		anew(t, append(ahead, c.stays+1, c.stays, 0), nil, down+"//_", want, at(int64(len(ahead)), int64(len(ahead))+2, c.stays+1, 0))
	}
	anew(t, []int64{0, bound, 31457247, 62914558, 62914559, 31457279}, nil, "_/__/_", at(1, 2, bound, 0), at(4, 5, 62914559, 0))
	anew(t, []int64{0, bound, 31457248, bound, most, 31457247, bound}, nil, "_/____/", at(1, 2, bound, 0))
}

// P16.1: it is seen where twice the sum is below the top, that is even, or odd; written out: the greatest sum at which it is seen.
func TestSeen(t *testing.T) {
	for _, c := range []struct{ top, seen int64 }{
		{65, 32}, {66, 32}, {67, 33}, {68, 33}, {299, 149}, {300, 149}, {301, 150}, {1000, 499}, {1001, 500}, {1065, 532},
		{bound - 3, 31457278}, {bound - 2, 31457278}, {bound - 1, 31457279}, {bound, 31457279}, {bound + 1, 31457279}, {bound + 2, 31457279}, {most, 31457279},
	} {
		top := counts(c.top)
		for _, w := range []int64{c.seen, c.seen - 1, 1, 0, -1, least} {
			anew(t, []int64{0, c.top, w}, nil, "_/_", at(1, 2, top, 0))
		}
		for _, w := range []int64{c.seen + 1, c.seen + 2, c.top} {
			anew(t, []int64{0, c.top, w}, nil, "_//")
		}
		anew(t, []int64{0, c.top, c.seen + 1, c.seen + 2, c.seen + 1, c.seen}, nil, "_////_", at(1, 5, top, 0))
	}
}

// P16.1: each sum behind each top of a few hundred, and behind great ones.
func TestSeenOfEach(t *testing.T) {
	for top := int64(65); top <= 400; top++ {
		for w := range top + 2 {
			seen := (top - 1) / 2
			if w <= seen {
				anew(t, []int64{0, top, w}, nil, "_/_", at(1, 2, top, 0))
			} else {
				anew(t, []int64{0, top, w}, nil, "_//")
			}
		}
	}
	for top := int64(bound - 400); top <= bound+4; top++ {
		high := min(top, bound)
		anew(t, []int64{0, top, (high + 1) / 2}, nil, "_//")
		anew(t, []int64{0, top, (high - 1) / 2}, nil, "_/_", at(1, 2, high, 0))
	}
}

// P16.1: a sum that is as the top leaves it at the first one's step; one just above it moves it there; written out.
func TestTop(t *testing.T) {
	anew(t, []int64{0, 300, 300, 300, 149}, nil, "_///_", at(1, 4, 300, 0))
	anew(t, []int64{0, 300, 200, 300, 149}, nil, "_///_", at(1, 4, 300, 0))
	anew(t, []int64{0, 300, 301, 300, 301, 150}, nil, "_////_", at(2, 5, 301, 0))
	anew(t, []int64{0, 300, 299, 301, 150}, nil, "_///_", at(3, 4, 301, 0))
	anew(t, []int64{0, 300, 301, 302, 303, 302, 151}, nil, "_/////_", at(4, 6, 303, 0))
	anew(t, []int64{0, 300, 150, 301, 151, 302, 151, 150}, nil, "_//////_", at(5, 7, 302, 0))
	anew(t, []int64{0, 65, 65, 66, 66, 65, 33, 32}, nil, "_//////_", at(3, 7, 66, 0))
	anew(t, []int64{7, 100, 90, 400, 210, 399, 400, 200, 199}, nil, "_///////_", at(3, 8, 400, 0))
	// These are beyond the bound, and count as it.
	anew(t, []int64{0, bound, bound + 1, most, 1 << 40, 0}, nil, "_////_", at(1, 5, bound, 0))
	anew(t, []int64{0, bound - 1, most, bound, bound + 1, 0}, nil, "_////_", at(2, 5, bound, 0))
	anew(t, []int64{0, bound - 1, bound - 1, bound - 2, 31457280, 31457279}, nil, "_////_", at(1, 5, bound-1, 0))
}

// P16.1: where the top is does not hang on how long the way up was, nor on how long it takes till it is seen.
func TestTopFarAway(t *testing.T) {
	for up := range 60 {
		for down := range 60 {
			w := []int64{0}
			for i := range up + 1 {
				w = append(w, 1000+int64(i))
			}
			w = append(w, times(999, down)...)
			how := "_" + string(slices.Repeat([]byte{'/'}, len(w)-1)) + "_"
			anew(t, append(w, 400), nil, how, at(int64(up)+1, int64(len(w)), 1000+int64(up), 0))
		}
	}
}

// P16.1: sums below 0, at 0, at, just within and just beyond BoundWindow, and at the ends of the range of 64 bits, as what a top counts as; written out.
func TestSumsNearest(t *testing.T) {
	for _, c := range []struct{ w, top int64 }{
		{65, 65}, {66, 66}, {31457280, 31457280}, {bound - 2, bound - 2}, {bound - 1, bound - 1}, {bound, bound}, {bound + 1, bound}, {bound + 2, bound},
		{2 * bound, bound}, {1<<31 - 1, bound}, {1 << 31, bound}, {1<<32 - 1, bound}, {1 << 32, bound}, {1<<32 + 5, bound}, {1<<32 + 100, bound}, {1 << 40, bound},
		{1 << 61, bound}, {1 << 62, bound}, {1<<62 + 1, bound}, {most - 1, bound}, {most, bound},
	} {
		anew(t, []int64{0, c.w, 0}, nil, "_/_", at(1, 2, c.top, 0))
		anew(t, []int64{0, 65, c.w, 0, 0}, nil, "_//__", at(1+min(c.w-65, 1), 3, c.top, 0))
		anew(t, []int64{0, c.w, least, -1, 0, c.w}, nil, "_/___/", at(1, 2, c.top, 0))
	}
	for _, w := range []int64{0, -1, -2, -64, -65, -bound, -bound - 1, -1 << 31, -1<<32 + 5, -1<<32 + 300, -1 << 40, -1 << 61, -1 << 62, least + 1, least} {
		// As the valley, as what a peak is seen at, and as the valley behind it.
		anew(t, []int64{w, 64, 65, 33, w, 64, 65}, nil, "__//__/", at(2, 4, 65, 0))
		anew(t, []int64{0, w, 64, w, 65, 32}, nil, "____/_", at(4, 5, 65, 0))
		anew(t, []int64{300, 664, w, 64, 65}, nil, "____/")
		anew(t, times(w, 5), nil, "_____")
	}
}

// P16.1: each edge with each other one, as valleys, tops, and what is seen.
func TestEdges(t *testing.T) {
	for _, a := range edges() {
		for _, b := range edges() {
			h := heldOf(t)
			w := []int64{a, b, a, a, b, b, 0, a, b, 0, b, a, 300, b, a, 664, b, 665, a, most, b, a, 31457279, b, least, a, b}
			d := slices.Concat([]int64{b, a, 0, b, 7, -8, a, b}, times(a, 10), times(b, 9))
			h.row(t, w, d)
			same(t, peak.All(w, d), said(w, d))
		}
	}
}

// letters are all rows of so many of these values.
func letters(l []int64, size int, yield func([]int64)) {
	row := make([]int64, size)
	var fill func(int)
	fill = func(i int) {
		if i == size {
			yield(row)
			return
		}
		for _, v := range l {
			row[i] = v
			fill(i + 1)
		}
	}
	fill(0)
}

// P16.1: all short rows of sums close to where something turns.
func TestShortRows(t *testing.T) {
	d := []int64{-9, 8, 70, -6, -50, 4, 3}
	for _, l := range [][]int64{
		{0, 32, 33, 64, 65, 66}, {1, 33, 66, 67, 133, 134}, {299, 300, 663, 664, 665, 332}, {31457247, 31457279, 31457280, 62914559, bound, most}, {least, -1, 0, 64, 65, 200},
	} {
		letters(l, 6, func(w []int64) {
			h := heldOf(t)
			h.row(t, w, d[:6])
		})
	}
	letters([]int64{0, 65, 131, 263}, 7, func(w []int64) {
		h := heldOf(t)
		h.row(t, w, d)
	})
}
