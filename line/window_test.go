package line_test

import (
	"math"
	"testing"

	"systole/api"
	"systole/line"
)

// The chapter's example: a window of 2 over 1, 2, 4.
func TestExample(t *testing.T) {
	w := madeWindow(t, 2)
	comes(t, w, 1, 1)
	comes(t, w, 2, 3)
	comes(t, w, 4, 6)
}

// P3.2: a number of values that may not be.
func TestOfRefuses(t *testing.T) {
	for _, n := range []int{0, -1, -2, -1024, math.MinInt, math.MinInt + 1, 1025, 1026, 2048, 1 << 16, math.MaxInt} {
		if w, e := line.Of(n); w != nil || e != api.ErrArg {
			t.Errorf("Of(%d): %v, error %d", n, w, e)
		}
	}
}

// P3.2: each number of values that may be: the sum is of just so many.
func TestOfTakes(t *testing.T) {
	for n := 1; n <= 1024; n++ {
		w := madeWindow(t, n)
		if w.Sum() != 0 || w.Back(0) != 0 {
			t.Fatalf("Of(%d): Sum %d, Back(0) %d", n, w.Sum(), w.Back(0))
		}
		for i := range n {
			comes(t, w, 1, int64(i+1))
		}
		comes(t, w, 1, int64(n))
		comes(t, w, 11, int64(n)+10)
		if w.Back(0) != 11 || w.Back(n) != 0 || n > 1 && w.Back(n-1) != 1 {
			t.Fatalf("Of(%d): Back %d, %d, %d", n, w.Back(0), w.Back(n-1), w.Back(n))
		}
	}
}

// P3.2: windows of several sizes, looked at behind each value, held against numbers without an end.
func TestWindows(t *testing.T) {
	for _, n := range []int{1, 2, 3, 4, 5, 8, 9} {
		w := madeWindow(t, n)
		windowHolds(t, w, n)
		came := mixed(140)
		for i, v := range came {
			comes(t, w, v, wholeSum(came[:i+1], n))
			windowHolds(t, w, n, came[:i+1]...)
		}
	}
	came := mixed(2100)
	w := madeWindow(t, 1024)
	for i, v := range came {
		comes(t, w, v, wholeSum(came[:i+1], 1024))
	}
	windowHolds(t, w, 1024, came...)
}

// P3.2: the last value alone.
func TestOfOne(t *testing.T) {
	w := madeWindow(t, 1)
	for _, v := range []int64{5, 0, -7, most, least, least, 1} {
		comes(t, w, v, v)
		if w.Back(0) != v || w.Back(1) != 0 || w.Back(-1) != 0 {
			t.Errorf("behind %d: %d, %d, %d", v, w.Back(0), w.Back(1), w.Back(-1))
		}
	}
}

// P3.2: sums that go beyond 64 bits, on either side, and come back within.
func TestSumGoesRound(t *testing.T) {
	w := madeWindow(t, 2)
	comes(t, w, most, most)
	comes(t, w, 1, least)
	comes(t, w, 1, 2)
	comes(t, w, least, least+1)
	comes(t, w, -1, most)
	comes(t, w, -1, -2)

	w = madeWindow(t, 3)
	comes(t, w, most, most)
	comes(t, w, most, -2)
	comes(t, w, most, most-2)
	comes(t, w, 0, -2)
	comes(t, w, 0, most)
	comes(t, w, 0, 0)
	comes(t, w, least, least)
	comes(t, w, least, 0)
	comes(t, w, least, least)
	comes(t, w, 5, 5)
	comes(t, w, 5, least+10)
	comes(t, w, 5, 15)
}

// P3.2: what came k steps ago, written out: of k below 0, of 0, of n - 1, of n, and of more than came.
func TestWindowBack(t *testing.T) {
	w := madeWindow(t, 3, 11, 12)
	for _, c := range []struct {
		k    int
		want int64
	}{
		{math.MinInt, 0}, {-1, 0}, {0, 12}, {1, 11}, {2, 0}, {3, 0}, {math.MaxInt, 0},
	} {
		if v := w.Back(c.k); v != c.want {
			t.Errorf("Back(%d) behind two values: %d; want %d", c.k, v, c.want)
		}
	}
	w.Push(13)
	w.Push(14)
	for _, c := range []struct {
		k    int
		want int64
	}{
		{math.MinInt, 0}, {-1, 0}, {0, 14}, {1, 13}, {2, 12}, {3, 0}, {4, 0}, {math.MaxInt, 0},
	} {
		if v := w.Back(c.k); v != c.want {
			t.Errorf("Back(%d) behind four values: %d; want %d", c.k, v, c.want)
		}
	}
}

// P3.2: a look changes nothing, and two windows have nothing in common.
func TestWindowsApart(t *testing.T) {
	a, b := madeWindow(t, 2, 1, 2, 3), madeWindow(t, 2)
	for range 9 {
		a.Sum()
		a.Back(0)
		a.Back(1)
		a.Back(2)
		a.Back(-1)
	}
	windowHolds(t, a, 2, 1, 2, 3)
	windowHolds(t, b, 2)
	comes(t, b, 8, 8)
	a.Reset()
	windowHolds(t, a, 2)
	windowHolds(t, b, 2, 8)
}

// P3.2: Reset behind none, some, and more than a window; and what is pushed behind it.
func TestWindowReset(t *testing.T) {
	for many := range int64(10) {
		w := madeWindow(t, 3, numbers(1, 1+many)...)
		w.Reset()
		windowHolds(t, w, 3)
		came := []int64{-5, 7, 20, 0, 4}
		for i, v := range came {
			comes(t, w, v, wholeSum(came[:i+1], 3))
			windowHolds(t, w, 3, came[:i+1]...)
		}
		w.Reset()
		w.Reset()
		windowHolds(t, w, 3)
	}
}

// P3.2: Reset of a sum that went beyond 64 bits.
func TestWindowResetRound(t *testing.T) {
	w := madeWindow(t, 2, most, most)
	w.Reset()
	if w.Sum() != 0 {
		t.Errorf("Sum behind Reset: %d", w.Sum())
	}
	comes(t, w, 3, 3)
	comes(t, w, 4, 7)
	comes(t, w, 5, 9)
}
