package model_test

import (
	"systole/api"
)

// floor is the greatest whole number that is not above a by b, which is above 0.
func floor(a, b int64) int64 {
	whole := a / b
	for whole*b > a {
		whole--
	}
	return whole
}

// row is all that came to one of the filters; each value counts as the nearest number that is at most so far from 0, or of some filters from 0 on.
type row struct {
	came      []int64
	from, far int64
}

// ago is as what counts what came k steps ago.
func (r *row) ago(k int) int64 {
	if k >= len(r.came) {
		return 0
	}
	return nearest(r.came[len(r.came)-1-k], r.from, r.far)
}

// sum is the sum of what came in the last n steps.
func (r *row) sum(n int) int64 {
	var all int64
	for k := range n {
		all += r.ago(k)
	}
	return all
}

// waves is what the chapters' words (10 to 15) say of all samples, filter by filter.
type waves struct {
	mains                         int
	base                          int64
	notch, low, high, slope, hill row
}

// newWaves is one to which nothing came.
func newWaves(mains int) *waves {
	return &waves{
		mains: mains,
		notch: row{from: -65535, far: 65535},
		low:   row{from: -65535, far: 65535},
		high:  row{from: -73727, far: 73727},
		slope: row{from: -142847, far: 142847},
		hill:  row{from: 0, far: 67108864},
	}
}

// notched is what the notch answers to what came last.
func (w *waves) notched() int64 {
	x := &w.notch
	switch w.mains {
	case 50:
		return floor(x.ago(0)+x.ago(1)+x.ago(2)+x.ago(3), 4)
	case 60:
		return floor(12516*x.ago(0)+7736*x.ago(1)+12516*x.ago(2), 32768)
	}
	return x.ago(0)
}

// lowed is what the low filter answers to what came last.
func (w *waves) lowed() int64 {
	var all int64
	for k, weight := range []int64{1, 2, 3, 4, 5, 6, 5, 4, 3, 2, 1} {
		all += weight * w.low.ago(k)
	}
	return floor(all, 32)
}

// next is what one more sample comes to.
func (w *waves) next(sample int32) api.Wave {
	v := nearest(int64(sample), -32768, 32767)
	if len(w.notch.came) == 0 {
		w.base = v
	}
	put := func(r *row, v int64) { r.came = append(r.came, v) }
	put(&w.notch, v-w.base)
	put(&w.low, w.notched())
	put(&w.high, w.lowed())
	h := floor(32*w.high.ago(16)-w.high.sum(32), 32)
	put(&w.slope, h)
	x := &w.slope
	d := floor(2*x.ago(0)+x.ago(1)-x.ago(3)-2*x.ago(4), 8)
	put(&w.hill, min(d*d, 67108864))
	return api.Wave{H: h, D: d, E: min(d*d, 67108864), W: floor(w.hill.sum(30), 32)}
}
