package level_test

import (
	"slices"
	"testing"

	"systole/api"
	"systole/level"
)

// The chapter's examples, and what the limits are.
func TestExample(t *testing.T) {
	l := level.First(800, 1600)
	same(t, l, of(1600, 0))
	parts(t, l, 400, 200)
	same(t, level.Signal(l, 800), of(1500, 0))
	if api.Least != 256 || api.BoundWindow != bound {
		t.Errorf("the limits are %d and %d", api.Least, api.BoundWindow)
	}
}

// P17.1: First is the greatest top, of none 0, as Signal, and 0 as Noise: of one, of many, of equal ones, of such as are all below 0.
func TestFirst(t *testing.T) {
	same(t, level.First(), of(0, 0))
	same(t, level.First(nil...), of(0, 0))
	same(t, level.First([]int64{}...), of(0, 0))
	for _, c := range []struct {
		tops []int64
		want int64
	}{
		{[]int64{0}, 0}, {[]int64{1}, 1}, {[]int64{800}, 800}, {[]int64{800, 1600}, 1600}, {[]int64{1600, 800}, 1600},
		{[]int64{5, 5}, 5}, {[]int64{5, 5, 5, 5}, 5}, {[]int64{5, 5, 4, 5}, 5}, {[]int64{0, 0, 0}, 0}, {[]int64{1, 2, 3, 4, 5}, 5}, {[]int64{5, 4, 3, 2, 1}, 5},
		{[]int64{-1}, 0}, {[]int64{-1, -2}, 0}, {[]int64{-500, -7, -1000}, 0}, {[]int64{least}, 0}, {[]int64{least, -1, least + 1}, 0}, {[]int64{-500, 3, -1000}, 3}, {[]int64{-500, 0}, 0},
		{[]int64{3, bound, 7}, bound}, {[]int64{bound - 1, 9}, bound - 1}, {[]int64{4, most, 9}, bound}, {[]int64{bound + 1, bound}, bound},
	} {
		same(t, level.First(c.tops...), of(c.want, 0))
		orders(c.tops, func(l []int64) { same(t, level.First(l...), of(c.want, 0)) })
	}
}

// P17.1: First of many tops, wherever the greatest one stands.
func TestFirstWherever(t *testing.T) {
	for place := range 200 {
		l := times(700, 200)
		l[place] = 701
		same(t, level.First(l...), of(701, 0))
		l[place] = 699
		same(t, level.First(l...), of(700, 0))
		l = times(-700, 200)
		l[place] = 1
		same(t, level.First(l...), of(1, 0))
	}
}

// P17.1: Signal and Noise of no top: the level as it counts; written out.
func TestNoTop(t *testing.T) {
	for _, c := range []struct{ l, want api.Level }{
		{of(0, 0), of(0, 0)}, {of(1000, 30), of(1000, 30)}, {of(30, 1000), of(30, 1000)}, {of(bound, bound), of(bound, bound)}, {of(bound-1, 1), of(bound-1, 1)},
		{of(-1, 30), of(0, 30)}, {of(1000, -1), of(1000, 0)}, {of(-1, -1), of(0, 0)}, {of(least, least), of(0, 0)},
		{of(bound+1, 30), of(bound, 30)}, {of(1000, bound+1), of(1000, bound)}, {of(bound+1, bound+1), of(bound, bound)}, {of(most, most), of(bound, bound)},
		{of(-50, 1<<60), of(0, bound)}, {of(most, least), of(bound, 0)}, {of(1<<32+5, -1<<32+5), of(bound, 0)},
	} {
		for _, none := range [][]int64{nil, {}} {
			same(t, level.Signal(c.l, none...), c.want)
			same(t, level.Noise(c.l, none...), c.want)
		}
		same(t, level.Signal(c.l), c.want)
		same(t, level.Noise(c.l), c.want)
	}
}

// P17.1: Signal: top by top by an 8th, from above and from below; and Noise likewise; written out.
func TestByAnEighth(t *testing.T) {
	for _, c := range []struct {
		from int64
		tops []int64
		want int64
	}{
		{1000, []int64{7}, 875}, {875, []int64{7}, 766}, {1000, []int64{7, 7}, 766}, {0, []int64{7, 100}, 12}, {1600, []int64{800}, 1500}, {1500, []int64{800}, 1412}, {1600, []int64{800, 800}, 1412},
		{1600, []int64{2400}, 1700}, {1700, []int64{2400}, 1787}, {1600, []int64{2400, 2400}, 1787}, {1600, []int64{2400, 800}, 1587}, {1600, []int64{800, 2400}, 1612},
		{0, []int64{8}, 1}, {0, []int64{7}, 0}, {8, []int64{0}, 7}, {1, []int64{0}, 0}, {0, []int64{8, 8, 9, 10}, 3},
		{0, []int64{bound}, 7864320}, {bound, []int64{0}, 55050240}, {bound, []int64{bound}, bound}, {0, []int64{0}, 0}, {bound - 7, []int64{bound}, bound - 7}, {bound - 8, []int64{bound}, bound - 7}, {bound, []int64{bound - 1}, bound - 1},
		{0, []int64{bound, bound}, 14745600}, {bound, []int64{0, bound}, 56033280}, {0, []int64{bound, 0}, 6881280},
	} {
		for _, other := range []int64{0, 1, 500, bound} {
			same(t, level.Signal(of(c.from, other), c.tops...), of(c.want, other))
			same(t, level.Noise(of(other, c.from), c.tops...), of(other, c.want))
		}
	}
}

// P17.1: Again: by a 4th, from above and from below; written out.
func TestByAFourth(t *testing.T) {
	for _, c := range []struct{ from, top, want int64 }{
		{875, 1275, 975}, {1600, 800, 1400}, {800, 1600, 1000}, {1000, 7, 751}, {1000, 1003, 1000}, {1000, 1004, 1001}, {1000, 999, 999}, {1000, 996, 999}, {1000, 995, 998},
		{0, 3, 0}, {0, 4, 1}, {4, 0, 3}, {1, 0, 0}, {0, 0, 0}, {7, 7, 7}, {bound, bound, bound}, {0, bound, 15728640}, {bound, 0, 47185920}, {bound - 3, bound, bound - 3}, {bound - 4, bound, bound - 3}, {bound, bound - 1, bound - 1},
	} {
		for _, other := range []int64{0, 1, 500, bound} {
			same(t, level.Again(of(c.from, other), c.top), of(c.want, other))
		}
	}
}

// P17.1: what is left over, in going by an 8th and by a 4th: the floor of differences from -17 to 17, at small and at great numbers; written out.
func TestFloors(t *testing.T) {
	eighths := []int64{-3, -2, -2, -2, -2, -2, -2, -2, -2, -1, -1, -1, -1, -1, -1, -1, -1, 0, 0, 0, 0, 0, 0, 0, 0, 1, 1, 1, 1, 1, 1, 1, 1, 2, 2}
	fourths := []int64{-5, -4, -4, -4, -4, -3, -3, -3, -3, -2, -2, -2, -2, -1, -1, -1, -1, 0, 0, 0, 0, 1, 1, 1, 1, 2, 2, 2, 2, 3, 3, 3, 3, 4, 4}
	for _, from := range []int64{17, 18, 19, 20, 21, 22, 23, 24, 25, 100, 255, 256, 257, 999, 1000, 1001, 1002, 1003, 65535, 65536, 1 << 20, 30000001, bound - 1000, bound - 24, bound - 23, bound - 18, bound - 17} {
		for i := range eighths {
			top := from + int64(i) - 17
			same(t, level.Signal(of(from, 9), top), of(from+eighths[i], 9))
			same(t, level.Noise(of(9, from), top), of(9, from+eighths[i]))
			same(t, level.Again(of(from, 9), top), of(from+fourths[i], 9))
		}
	}
	// Nearer to the ends there are differences of one sign alone.
	for i := range int64(18) {
		same(t, level.Signal(of(0, 9), i), of(eighths[17+i], 9))
		same(t, level.Noise(of(9, 0), i), of(9, eighths[17+i]))
		same(t, level.Again(of(0, 9), i), of(fourths[17+i], 9))
		same(t, level.Signal(of(bound, 9), bound-i), of(bound+eighths[17-i], 9))
		same(t, level.Noise(of(9, bound), bound-i), of(9, bound+eighths[17-i]))
		same(t, level.Again(of(bound, 9), bound-i), of(bound+fourths[17-i], 9))
	}
}

// P17.1: a top by 1 below takes 1 away; one that is above by 7, or by 3, moves nothing by an 8th, or by a 4th, and one that is above by 8, or by 4, does; at each of many numbers.
func TestLeastStep(t *testing.T) {
	for _, n := range []int64{1, 2, 7, 8, 255, 256, 5000, 1 << 24, bound - 9, bound - 8} {
		same(t, level.Signal(of(n, 3), n-1), of(n-1, 3))
		same(t, level.Noise(of(3, n), n-1), of(3, n-1))
		same(t, level.Again(of(n, 3), n-1), of(n-1, 3))
		same(t, level.Signal(of(n, 3), n, n+1, n+7), of(n, 3))
		same(t, level.Noise(of(3, n), n, n+1, n+7), of(3, n))
		same(t, level.Signal(of(n, 3), n+8), of(n+1, 3))
		same(t, level.Noise(of(3, n), n+8), of(3, n+1))
		for more := range int64(4) {
			same(t, level.Again(of(n, 3), n+more), of(n, 3))
		}
		same(t, level.Again(of(n, 3), n+4), of(n+1, 3))
	}
}

// nearest are numbers, and what each one counts as.
func nearest() [][2]int64 {
	return [][2]int64{
		{0, 0}, {1, 1}, {2, 2}, {-1, 0}, {-2, 0}, {-7, 0}, {-8, 0}, {-9, 0}, {-256, 0}, {-65536, 0}, {-62914560, 0}, {-62914561, 0},
		{62914558, 62914558}, {62914559, 62914559}, {62914560, 62914560}, {62914561, 62914560}, {62914562, 62914560}, {62914568, 62914560}, {67108864, 62914560}, {125829120, 62914560},
		{1<<31 - 1, 62914560}, {1 << 31, 62914560}, {1<<32 - 1, 62914560}, {1 << 32, 62914560}, {1<<32 + 1000, 62914560}, {1 << 40, 62914560}, {1<<62 + 1000, 62914560},
		{-1 << 31, 0}, {-1 << 32, 0}, {-1<<32 + 1000, 0}, {-1 << 40, 0}, {-1 << 62, 0}, {-1<<62 - 1000, 0},
		{most - 1, 62914560}, {most, 62914560}, {least, 0}, {least + 1, 0}, {least + 1000, 0},
	}
}

// P17.1: tops below 0, at 0, at, just within and just beyond BoundWindow, and at the ends of the range of 64 bits: each counts as the nearest number, alone and among others.
func TestTopsNearest(t *testing.T) {
	for _, c := range nearest() {
		top, as := c[0], c[1]
		same(t, level.First(top), of(as, 0))
		same(t, level.First(-3, top, least), of(as, 0))
		for _, from := range []int64{0, 1, 8, 1000, 62914552, 62914559, 62914560} {
			eighth, fourth := from+floor(as-from, 8), from+floor(as-from, 4)
			same(t, level.Signal(of(from, 77), top), of(eighth, 77))
			same(t, level.Noise(of(77, from), top), of(77, eighth))
			same(t, level.Again(of(from, 77), top), of(fourth, 77))
			same(t, level.Signal(of(from, 77), top, top), of(eighth+floor(as-eighth, 8), 77))
			same(t, level.Noise(of(77, from), top, top), of(77, eighth+floor(as-eighth, 8)))
			same(t, level.Signal(of(from, 77), from, top, eighth), of(eighth, 77))
			same(t, level.Noise(of(77, from), from, top, eighth), of(77, eighth))
		}
	}
	same(t, level.Signal(of(1000, 0), least), of(875, 0))
	same(t, level.Signal(of(1000, 0), most), of(7865195, 0))
	same(t, level.Noise(of(0, 1000), least), of(0, 875))
	same(t, level.Noise(of(0, 1000), most), of(0, 7865195))
	same(t, level.Again(of(1000, 0), least), of(750, 0))
	same(t, level.Again(of(1000, 0), most), of(15729390, 0))
}

// P17.1: levels whose Signal, whose Noise, or both are such: each counts so, the one that a call turns and the one that stays.
func TestLevelsNearest(t *testing.T) {
	for _, a := range nearest() {
		for _, b := range nearest() {
			l, as := of(a[0], b[0]), of(a[1], b[1])
			same(t, level.Signal(l), as)
			same(t, level.Noise(l), as)
			for _, top := range []int64{0, 9, 1000, bound, least, most} {
				to := counts(top)
				same(t, level.Signal(l, top), of(as.Signal+floor(to-as.Signal, 8), as.Noise))
				same(t, level.Noise(l, top), of(as.Signal, as.Noise+floor(to-as.Noise, 8)))
				same(t, level.Again(l, top), of(as.Signal+floor(to-as.Signal, 4), as.Noise))
			}
		}
	}
	same(t, level.Signal(of(-50, 1<<60), 800), of(100, bound))
	same(t, level.Signal(of(most, -1), 0), of(55050240, 0))
	same(t, level.Noise(of(1<<60, -50), 800), of(bound, 100))
	same(t, level.Noise(of(-1, most), 0), of(0, 55050240))
	same(t, level.Again(of(-50, 1<<60), 800), of(200, bound))
	same(t, level.Again(of(most, least), 0), of(47185920, 0))
}

// P17.1: the number that a call does not turn stays as it counts, whatever the tops, and however many.
func TestOtherStays(t *testing.T) {
	for _, c := range nearest() {
		for _, tops := range [][]int64{nil, {0}, {most}, {least}, {5, 1000, bound}, times(300, 50)} {
			if got := level.Signal(of(500, c[0]), tops...).Noise; got != c[1] {
				t.Fatalf("Signal with %v: the Noise %d is %d then", tops, c[0], got)
			}
			if got := level.Noise(of(c[0], 500), tops...).Signal; got != c[1] {
				t.Fatalf("Noise with %v: the Signal %d is %d then", tops, c[0], got)
			}
			for _, top := range tops {
				if got := level.Again(of(500, c[0]), top).Noise; got != c[1] {
					t.Fatalf("Again with %d: the Noise %d is %d then", top, c[0], got)
				}
			}
		}
	}
}

// P17.1: many tops are the same as one call for each, and as two calls of two parts, wherever they are parted.
func TestTopByTop(t *testing.T) {
	var x noise
	for kind := range kinds {
		for range 40 {
			l := x.level(kind)
			tops := x.tops(kind, 12, l)
			signal, other := level.Signal(l, tops...), level.Noise(l, tops...)
			one, two := l, l
			for _, top := range tops {
				one, two = level.Signal(one, top), level.Noise(two, top)
			}
			same(t, one, signal)
			same(t, two, other)
			for i := range len(tops) + 1 {
				same(t, level.Signal(level.Signal(l, tops[:i]...), tops[i:]...), signal)
				same(t, level.Noise(level.Noise(l, tops[:i]...), tops[i:]...), other)
			}
		}
	}
}

// P17.1: in which order tops come plays a part for Signal and Noise: the last one weighs most; written out.
func TestOrderOfTops(t *testing.T) {
	same(t, level.Signal(of(1000, 5), 200, 3000, 900), of(1129, 5))
	same(t, level.Signal(of(1000, 5), 900, 3000, 200), of(1108, 5))
	same(t, level.Noise(of(5, 1000), 200, 3000, 900), of(5, 1129))
	same(t, level.Noise(of(5, 1000), 900, 3000, 200), of(5, 1108))
}

// Each of the edges as a top and as either number of a level, and long lists of tops, against the chapter's words.
func TestEdges(t *testing.T) {
	l := edges()
	for _, signal := range l {
		for _, other := range l {
			asked(t, of(signal, other), 0, signal, other, bound)
		}
		asked(t, of(signal, 300), l...)
		asked(t, of(300, signal), slices.Concat(l, l)...)
	}
}
