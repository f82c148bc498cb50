package line_test

import (
	"math"
	"testing"

	"systole/line"
)

// P3.3: each call of a line that no call made, that is nil: 0, nothing is done, and it stays so.
func TestNilLine(t *testing.T) {
	var x *line.Line
	for range 2 {
		x.Push()
		x.Push(5)
		x.Push(5, 6, 7)
		for _, k := range []int{math.MinInt, -1, 0, 1, 1024, math.MaxInt} {
			if v := x.Back(k); v != 0 {
				t.Errorf("Back(%d) of nil: %d", k, v)
			}
		}
		if x.Most() != 0 {
			t.Errorf("Most of nil: %d", x.Most())
		}
		x.Reset()
		if x != nil {
			t.Error("it is not nil any more")
		}
	}
}

// P3.3: each call of a window that no call made, that is nil; what it has of a line's, too.
func TestNilWindow(t *testing.T) {
	var w *line.Window
	for range 2 {
		for _, v := range []int64{0, 5, least, most} {
			comes(t, w, v, 0)
		}
		for _, k := range []int{math.MinInt, -1, 0, 1, 1024, math.MaxInt} {
			if v := w.Back(k); v != 0 {
				t.Errorf("Back(%d) of nil: %d", k, v)
			}
		}
		if w.Most() != 0 {
			t.Errorf("Most of nil: %d", w.Most())
		}
		w.Reset()
		if w != nil {
			t.Error("it is not nil any more")
		}
	}
}
