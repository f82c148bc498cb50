package line_test

import (
	"math"
	"math/big"
	"testing"

	"systole/api"
	"systole/line"
)

const (
	most  = math.MaxInt64
	least = math.MinInt64
)

// madeLine is a line that looks so many steps back, to which these values came.
func madeLine(t *testing.T, steps int, l ...int64) *line.Line {
	t.Helper()
	x, e := line.New(steps)
	if e != api.OK || x == nil {
		t.Fatalf("New(%d): %v, error %d", steps, x, e)
	}
	x.Push(l...)
	return x
}

// madeWindow is a window over n values, to which these came.
func madeWindow(t *testing.T, n int, l ...int64) *line.Window {
	t.Helper()
	w, e := line.Of(n)
	if e != api.OK || w == nil {
		t.Fatalf("Of(%d): %v, error %d", n, w, e)
	}
	for _, v := range l {
		w.Push(v)
	}
	return w
}

// ago is what came k steps ago, of all that came: 0 of a k beyond the reach, which is a number of steps.
func ago(came []int64, reach, k int) int64 {
	if k < 0 || k > reach || k >= len(came) {
		return 0
	}
	return came[len(came)-1-k]
}

// wholeSum is the sum of the last n of what came modulo 2^64, reckoned as if numbers had no end.
func wholeSum(came []int64, n int) int64 {
	sum := new(big.Int)
	for k := range n {
		sum.Add(sum, big.NewInt(ago(came, n-1, k)))
	}
	sum.And(sum, new(big.Int).SetUint64(math.MaxUint64))
	return int64(sum.Uint64())
}

// backs looks at all steps up to the reach, and at some beyond it on either side.
func backs(t *testing.T, back func(int) int64, came []int64, reach int) {
	t.Helper()
	for k := range reach + 3 {
		backIs(t, back, came, reach, k)
	}
	for _, k := range []int{math.MinInt, math.MinInt + 1, -reach - 1, -2, -1, 2 * reach, 2*reach + 1, len(came), api.MaxDelay, api.MaxDelay + 1, math.MaxInt - 1, math.MaxInt} {
		backIs(t, back, came, reach, k)
	}
}

// backIs looks at one step.
func backIs(t *testing.T, back func(int) int64, came []int64, reach, k int) {
	t.Helper()
	if v, want := back(k), ago(came, reach, k); v != want {
		t.Fatalf("Back(%d) of %d behind %d values: %d; want %d", k, reach, len(came), v, want)
	}
}

// lineHolds looks at a line by every call that changes nothing.
func lineHolds(t *testing.T, x *line.Line, steps int, came ...int64) {
	t.Helper()
	if x.Most() != steps {
		t.Fatalf("Most: %d; want %d", x.Most(), steps)
	}
	backs(t, x.Back, came, steps)
}

// windowHolds looks at a window by every call that changes nothing.
func windowHolds(t *testing.T, w *line.Window, n int, came ...int64) {
	t.Helper()
	if s, want := w.Sum(), wholeSum(came, n); s != want {
		t.Fatalf("Sum over %d behind %d values: %d; want %d", n, len(came), s, want)
	}
	if w.Most() != n-1 {
		t.Fatalf("Most over %d: %d", n, w.Most())
	}
	backs(t, w.Back, came, n-1)
}

// comes pushes a value into a window, and looks at the sum.
func comes(t *testing.T, w *line.Window, v, want int64) {
	t.Helper()
	if s := w.Push(v); s != want {
		t.Fatalf("Push(%d): %d; want %d", v, s, want)
	}
	if s := w.Sum(); s != want {
		t.Fatalf("Sum behind Push(%d): %d; want %d", v, s, want)
	}
}

// numbers are those from a on, ahead of b.
func numbers(a, b int64) []int64 {
	var l []int64
	for v := a; v < b; v++ {
		l = append(l, v)
	}
	return l
}

// mixed are numbers of all sizes and both signs, the same ones each time.
func mixed(many int) []int64 {
	l := make([]int64, many)
	x := uint64(88172645463325252)
	for i := range l {
		x ^= x << 13
		x ^= x >> 7
		x ^= x << 17
		l[i] = int64(x) >> (i % 64)
	}
	return l
}
