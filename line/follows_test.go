package line_test

import (
	"testing"

	"systole/line"
)

// P3.4: values in one call, or in many, come the same: each way to cut a row of them.
func TestPieces(t *testing.T) {
	row := []int64{4, -3, most, 0, least, 7, 7, 1, -1}
	for steps := range 11 {
		whole := madeLine(t, steps, row...)
		lineHolds(t, whole, steps, row...)
		for cuts := range 1 << (len(row) - 1) {
			x := madeLine(t, steps)
			inPieces(x, row, cuts)
			for k := range steps + 2 {
				if x.Back(k) != whole.Back(k) {
					t.Fatalf("cut as %b, Back(%d) of %d: %d; whole %d", cuts, k, steps, x.Back(k), whole.Back(k))
				}
			}
		}
	}
}

// inPieces pushes a row that is cut behind each value for which cuts has a bit.
func inPieces(x *line.Line, row []int64, cuts int) {
	from := 0
	for i := range row {
		if i == len(row)-1 || cuts>>i&1 == 1 {
			x.Push(row[from : i+1]...)
			x.Push()
			from = i + 1
		}
	}
}

// P3.4: pieces of several sizes through the longest line, and through the lengths around powers of two.
func TestLongPieces(t *testing.T) {
	row := mixed(5000)
	for _, steps := range []int{127, 128, 129, 1023, 1024} {
		for _, size := range []int{1, 2, 3, 128, 1000, 1024, 1025, 1026, 2049, 5000} {
			x := madeLine(t, steps)
			for from := 0; from < len(row); from += size {
				x.Push(row[from:min(from+size, len(row))]...)
			}
			lineHolds(t, x, steps, row...)
		}
	}
}

// P3.5: a sum is the one ahead, and what came, less what came n steps ago.
func TestRunning(t *testing.T) {
	came := mixed(3200)
	for _, n := range []int{1, 2, 3, 30, 31, 32, 33, 400, 1023, 1024} {
		w := madeWindow(t, n)
		ahead := int64(0)
		for i, v := range came {
			left := ago(came[:i+1], n, n)
			comes(t, w, v, ahead+v-left)
			ahead = w.Sum()
		}
		windowHolds(t, w, n, came...)
	}
}

// P3.5, and all calls together: each row of up to 7 steps, with windows over 1, 2 and 3 values, answers as a plain list does.
func TestAllWays(t *testing.T) {
	for n := 1; n <= 3; n++ {
		steps := make([]int, 7)
		for {
			walk(t, n, steps)
			if !another(steps) {
				break
			}
		}
	}
}

// What may be done in one step of TestAllWays.
const (
	doPushSmall = iota
	doPushMost
	doPushLeast
	doReset
	ways
)

// another goes on to the next row of steps, as one counts; false behind the last one.
func another(steps []int) bool {
	for i := range steps {
		steps[i]++
		if steps[i] < ways {
			return true
		}
		steps[i] = 0
	}
	return false
}

// walk does a row of steps with a line, a window and a plain list.
func walk(t *testing.T, n int, steps []int) {
	t.Helper()
	x, w := madeLine(t, n-1), madeWindow(t, n)
	var came []int64
	for i, what := range steps {
		switch what {
		case doPushSmall:
			came = append(came, int64(10*i-25))
		case doPushMost:
			came = append(came, most-int64(i))
		case doPushLeast:
			came = append(came, least+int64(i))
		case doReset:
			came = nil
			x.Reset()
			w.Reset()
		}
		if what != doReset {
			v := came[len(came)-1]
			x.Push(v)
			comes(t, w, v, wholeSum(came, n))
		}
		if w.Sum() != wholeSum(came, n) {
			t.Fatalf("steps %v, over %d: Sum %d; want %d", steps, n, w.Sum(), wholeSum(came, n))
		}
		for k := -1; k <= n; k++ {
			backIs(t, x.Back, came, n-1, k)
			backIs(t, w.Back, came, n-1, k)
		}
	}
}
