package model_test

import (
	"math"
	"slices"
	"testing"

	"systole/api"
	"systole/model"
)

const (
	most     = math.MaxInt64
	least    = math.MinInt64
	maxAt    = 1099511627776
	highest  = 142847
	longest  = 24000
	greatest = 1048576
	learn    = 400
)

type (
	events = []api.Event
	items  = []api.Item
	marks  = []api.Mark
	outs   = []api.Out
	orders = []api.Order
)

// usual is the usual limits, written out.
func usual() api.Limits {
	return api.Limits{Mains: 50, Asys: 800, Tach: 100, TachN: 5, Brad: 240, BradN: 3, Fib: 200, FibN: 12, Escape: 2000}
}

// quick is limits by which each condition comes soon: at 200 samples, at two crossings of 100, at two distances up to 90, and at two from 300 on; and by which it escalates soon.
func quick() api.Limits {
	return api.Limits{Mains: 50, Asys: 200, Tach: 90, TachN: 2, Brad: 300, BradN: 2, Fib: 100, FibN: 2, Escape: 50}
}

// asys is the usual limits, with another Asys.
func asys(n int64) api.Limits {
	l := usual()
	l.Asys = n
	return l
}

// escape is quick limits, with another Escape.
func escape(n int64) api.Limits {
	l := quick()
	l.Escape = n
	return l
}

func item(kind int, at int64) api.Item { return api.Item{Kind: kind, At: at} }
func value(at int64, v int32) api.Item { return api.Item{Kind: 4, At: at, V: v} }

func missing(at int64) api.Event       { return api.Event{Kind: 1, At: at} }
func seen(at int64, v int32) api.Event { return api.Event{Kind: 2, At: at, Sample: api.Sample{V: v}} }

func mark(kind int, at int64) api.Mark { return api.Mark{Kind: kind, At: at} }
func gap(at int64) api.Mark            { return mark(1, at) }
func off(at int64) api.Mark            { return mark(2, at) }
func on(at int64) api.Mark             { return mark(3, at) }
func sample(at, h int64) api.Mark      { return api.Mark{Kind: 4, At: at, H: h} }
func dark(at int64) api.Mark           { return mark(5, at) }

func ack(at int64) api.Order        { return api.Order{At: at, Kind: 1} }
func silence(at, n int64) api.Order { return api.Order{At: at, Kind: 2, N: n} }

func beaten(at, rr int64) outs        { return outs{{Kind: 1, At: at, N: rr}} }
func raised(kind int, at int64) outs  { return outs{{Kind: 2, At: at, Alarm: kind}} }
func cleared(kind int, at int64) outs { return outs{{Kind: 3, At: at, Alarm: kind}} }
func latched(kind int, at int64) outs { return outs{{Kind: 4, At: at, Alarm: kind}} }
func acked(kind int, at int64) outs   { return outs{{Kind: 5, At: at, Alarm: kind}} }
func escaped(kind int, at int64) outs { return outs{{Kind: 6, At: at, Alarm: kind}} }
func loud(at int64) outs              { return outs{{Kind: 7, At: at, N: 1}} }
func still(at int64) outs             { return outs{{Kind: 7, At: at}} }
func silent(at, n int64) outs         { return outs{{Kind: 8, At: at, N: n}} }

// and is several lists of outs, one behind the other.
func and(l ...outs) outs {
	return slices.Concat(l...)
}

// nearest is as what a number counts.
func nearest(v, from, to int64) int64 {
	return min(max(v, from), to)
}

// asked is a function that says what is due.
type asked = func(at int64) []api.Order

// none says that nothing is due.
func none(int64) []api.Order {
	return nil
}

// all makes a function that says that these are due, whatever it is asked.
func all(o ...api.Order) asked {
	return func(int64) []api.Order { return o }
}

// beat is the mark of a beat that is at the sample at which it is told.
func beat(at, rr int64) api.Mark {
	return api.Mark{Kind: 6, At: at, Beat: api.Beat{At: at, Seen: at, RR: rr}}
}

// samples are so many samples from one on, with a wave.
func samples(at int64, many int, h func(i int) int64) marks {
	var l marks
	for i := range many {
		l = append(l, sample(at+int64(i), h(i)))
	}
	return l
}

// stays is so many samples from one on, with one wave.
func stays(at int64, many int, h int64) marks {
	return samples(at, many, func(int) int64 { return h })
}

// flutter is so many samples from one on, that are just below the height of quick limits, and at it, by turns.
func flutter(at int64, many int) marks {
	return samples(at, many, func(i int) int64 { return 99 + int64(i&1) })
}

// numbered are items of samples with these values, from a sample on.
func numbered(at int64, v ...int32) items {
	var l items
	for i, n := range v {
		l = append(l, value(at+int64(i), n))
	}
	return l
}

// shown are events of samples with these values, from a sample on.
func shown(at int64, v ...int32) events {
	var l events
	for i, n := range v {
		l = append(l, seen(at+int64(i), n))
	}
	return l
}

// hidden are events of so many samples with the lead off, from a sample on.
func hidden(at int64, many int) events {
	var l events
	for i := range int64(many) {
		l = append(l, api.Event{Kind: 2, At: at + i, Sample: api.Sample{V: 7, Off: true}})
	}
	return l
}

// even is so many values that are all the same.
func even(v int32, many int) []int32 {
	return slices.Repeat([]int32{v}, many)
}

// detector is a new one for mains that may be.
func detector(t *testing.T, mains int) *model.Detect {
	t.Helper()
	d, e := model.NewDetect(mains)
	if e != api.OK || d == nil {
		t.Fatalf("NewDetect(%d): %v, %d", mains, d, e)
	}
	return d
}

// judge is a new one by limits that may be.
func judge(t *testing.T, l api.Limits) *model.Judge {
	t.Helper()
	j, e := model.NewJudge(l)
	if e != api.OK || j == nil {
		t.Fatalf("NewJudge(%+v): %v, %d", l, j, e)
	}
	return j
}

// alike holds a list against the one that is wanted, and tells the first difference.
func alike[T comparable](t *testing.T, got, want []T) {
	t.Helper()
	if slices.Equal(got, want) {
		return
	}
	n := 0
	for n < min(len(got), len(want)) && got[n] == want[n] {
		n++
	}
	t.Fatalf("%d; want %d; from %d on %+v; want %+v", len(got), len(want), n, got[n:min(len(got), n+4)], want[n:min(len(want), n+4)])
}

// tells hands items to a detector, in one call, and looks at the marks.
func tells(t *testing.T, d *model.Detect, want marks, l ...api.Item) {
	t.Helper()
	alike(t, d.Push(l...), want)
}

// says hands marks to a judge, in one call, where nothing is due, and looks at what is said.
func says(t *testing.T, j *model.Judge, want outs, l ...api.Mark) {
	t.Helper()
	alike(t, j.Push(none, l...), want)
}

// orderly hands marks to a judge, in one call, with these orders at each sample, and looks at what is said.
func orderly(t *testing.T, j *model.Judge, want outs, l orders, m ...api.Mark) {
	t.Helper()
	alike(t, j.Push(all(l...), m...), want)
}

// signs is a judge's On and Stands of the kinds from 1 to 5, a sign each: a point, if neither; o, if its condition is there alone; s, if it stands alone; b, if both.
func signs(j *model.Judge) string {
	row := []byte(".....")
	for i := range row {
		switch there, stands := j.On(i+1), j.Stands(i+1); {
		case there && stands:
			row[i] = 'b'
		case there:
			row[i] = 'o'
		case stands:
			row[i] = 's'
		}
	}
	return string(row)
}

// is looks at On and Stands of all kinds, and of kinds that there aren't, twice in a row.
func is(t *testing.T, j *model.Judge, want string) {
	t.Helper()
	for range 2 {
		if got := signs(j); got != want {
			t.Fatalf("it stands as %s; want %s", got, want)
		}
		for _, kind := range []int{0, 6, 7, 8, -1, -2, -5, 1<<8 + 1, 1<<32 + 2, math.MinInt, math.MaxInt} {
			if j.On(kind) || j.Stands(kind) {
				t.Fatalf("On(%d): %v, Stands: %v", kind, j.On(kind), j.Stands(kind))
			}
		}
	}
}

// of are those that are of one of some kinds.
func of(l marks, kinds ...int) marks {
	var some marks
	for _, m := range l {
		if slices.Contains(kinds, m.Kind) {
			some = append(some, m)
		}
	}
	return some
}

// outsOf are those that are of one of some kinds.
func outsOf(l outs, kinds ...int) outs {
	var some outs
	for _, o := range l {
		if slices.Contains(kinds, o.Kind) {
			some = append(some, o)
		}
	}
	return some
}

// edges are numbers at which something changes: signs, MaxAt, and the ends of ranges of bits, among them those whose lower bits are those of small numbers.
func edges() []int64 {
	l := []int64{0, 1, 2, 4, 49, 50, 51, 60, 100, 199, 200, 201, 400, 800, 1000, longest, longest + 1}
	for _, n := range []int64{0, 1, 2, 200, 800, longest} {
		l = append(l, maxAt-n, maxAt+n)
	}
	for _, k := range []int{8, 15, 16, 31, 32, 40, 41, 47, 62} {
		l = append(l, 1<<k-1, 1<<k, 1<<k+1, 1<<k+50)
	}
	l = append(l, most-1, most)
	for _, n := range l {
		l = append(l, -n)
	}
	return append(l, least, least+1, least+50)
}

// otherKinds are kinds that there aren't, of items, of which 5 is the last one, and of marks, of which 6 is, beside 6.
func otherKinds() []int {
	l := []int{0, 7, 8, 9, 10, 100, math.MaxInt, math.MaxInt - 1, math.MinInt}
	for n := 1; n <= 6; n++ {
		l = append(l, -n, 1<<3+n, 1<<8+n, 1<<16+n, 1<<31+n, 1<<32+n, 1<<62+n, -1<<32+n, math.MinInt+n)
	}
	return l
}
