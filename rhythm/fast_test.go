package rhythm_test

import (
	"slices"
	"testing"

	"systole/api"
)

// often is the usual limits, with another TachN and BradN.
func often(tachN, bradN int64) api.Limits {
	l := usual()
	l.TachN, l.BradN = tachN, bradN
	return l
}

// row pushes beats of these distances, one by one, and looks that something is told at none of them.
func row(t *testing.T, r interface {
	Push(m ...api.Mark) []api.Cond
}, rr ...int64) {
	t.Helper()
	for _, d := range rr {
		if got := r.Push(beat(7, d)); len(got) != 0 {
			t.Fatalf("distances %v, at %d: %v", rr, d, got)
		}
	}
}

// P22.2, P22.6: a tachycardia begins with the TachN-th fast distance in a row, stays with more, and ends with one that is not fast.
func TestTach(t *testing.T) {
	for _, many := range []int64{1, 2, 3, 5, 19, 20} {
		for _, fast := range []int64{1, 2, 50, 99, 100} {
			for _, other := range []int64{101, 102, 170, 239, 240, 1000, most} {
				r := of(t, often(many, 20))
				row(t, r, slices.Repeat([]int64{fast}, int(many-1))...)
				is(t, r)
				says(t, r, begins(4, 500), beat(500, fast))
				is(t, r, 4)
				row(t, r, fast, fast, 100, 1, fast)
				is(t, r, 4)
				says(t, r, ends(4, 501), beat(501, other))
				is(t, r)
				row(t, r, slices.Repeat([]int64{fast}, int(many-1))...)
				says(t, r, begins(4, 502), beat(502, fast))
			}
		}
	}
}

// P22.2, P22.6: a bradycardia, likewise, of slow ones.
func TestBrad(t *testing.T) {
	for _, many := range []int64{1, 2, 3, 5, 19, 20} {
		for _, slow := range []int64{240, 241, 300, 2000, 1 << 32, most} {
			for _, other := range []int64{239, 238, 170, 101, 100, 99, 1} {
				r := of(t, often(20, many))
				row(t, r, slices.Repeat([]int64{slow}, int(many-1))...)
				is(t, r)
				says(t, r, begins(5, 500), beat(500, slow))
				is(t, r, 5)
				row(t, r, slow, slow, 240, most, slow)
				is(t, r, 5)
				says(t, r, ends(5, 501), beat(501, other))
				is(t, r)
				row(t, r, slices.Repeat([]int64{slow}, int(many-1))...)
				says(t, r, begins(5, 502), beat(502, slow))
			}
		}
	}
}

// P22.6: just the last ones in a row count: one that is neither, among them, and it begins behind so many more.
func TestRowsBroken(t *testing.T) {
	for place := range int64(5) {
		r := of(t, often(5, 5))
		row(t, r, slices.Repeat([]int64{100}, int(place))...)
		row(t, r, 101)
		row(t, r, 100, 100, 100, 100)
		says(t, r, begins(4, 9), beat(9, 100))

		r = of(t, often(5, 5))
		row(t, r, slices.Repeat([]int64{240}, int(place))...)
		row(t, r, 239)
		row(t, r, 240, 240, 240, 240)
		says(t, r, begins(5, 9), beat(9, 240))
	}
}

// P22.1: beats without a distance, or with one below 1, are in no row, and break none.
func TestNoDistances(t *testing.T) {
	none := []int64{0, -1, -90, -300, least, least + 90}
	for _, rr := range none {
		r := of(t, often(3, 3))
		row(t, r, rr, 90, rr, 90, rr, rr)
		says(t, r, begins(4, 9), beat(9, 90))
		row(t, r, none...)
		is(t, r, 4)
		says(t, r, ends(4, 10), beat(10, 300))
		row(t, r, rr, 300, rr, rr)
		says(t, r, begins(5, 11), beat(11, 300))
		row(t, r, none...)
		is(t, r, 5)
	}
}

// P22.2: one gives way to the other at one mark, which tells both, by rising kinds; never are both there.
func TestTachAndBrad(t *testing.T) {
	for _, n := range []int64{10, 0, -9, maxAt + 7, most, least} {
		r := of(t, often(1, 1))
		says(t, r, begins(4, n), beat(n, 100))
		says(t, r, and(ends(4, n), begins(5, n)), beat(n, 240))
		is(t, r, 5)
		says(t, r, and(begins(4, n), ends(5, n)), beat(n, 100))
		is(t, r, 4)
		says(t, r, ends(4, n), beat(n, 101))
		is(t, r)
	}
	r := of(t, often(2, 3))
	says(t, r, begins(4, 2), beat(1, 100), beat(2, 100))
	says(t, r, ends(4, 3), beat(3, 240))
	says(t, r, nil, beat(4, 240))
	says(t, r, begins(5, 5), beat(5, 240))
	says(t, r, ends(5, 6), beat(6, 100))
	says(t, r, begins(4, 7), beat(7, 100))
}

// P22.2: several conditions turn at one mark: told by rising kinds, each with the mark's At.
func TestSeveralAtOnce(t *testing.T) {
	// A beat ends the asystole, and begins, or ends, others.
	r := of(t, quickest())
	says(t, r, begins(2, 200), sample(0, 0), sample(200, 0))
	says(t, r, and(ends(2, 210), begins(4, 210)), beat(210, 90))
	says(t, r, begins(2, 410), sample(410, 0))
	says(t, r, and(ends(2, 420), ends(4, 420), begins(5, 420)), beat(420, 300))
	says(t, r, begins(2, 700), sample(700, 0))
	says(t, r, and(ends(2, 710), begins(4, 710), ends(5, 710)), beat(710, 90))
	// A sample begins an asystole and a fibrillation.
	says(t, r, and(begins(2, 910), begins(3, 910)), sample(910, 100))
	is(t, r, 2, 3, 4)
	says(t, r, and(begins(1, 3), ends(2, 3), ends(3, 3), ends(4, 3)), off(3))
	is(t, r, 1)

	// And it begins the one where it ends the other.
	r = of(t, quickest())
	r.Push(sample(0, 0), sample(1, 100))
	r.Push(samples(2, 100, 198)...)
	r.Push(beat(199, 0))
	r.Push(samples(0, 100, 201)...)
	is(t, r, 3)
	says(t, r, and(begins(2, 399), ends(3, 399)), sample(399, 100))
	is(t, r, 2)
}

// P22.1: the samples and gaps between beats play no part in the rows of distances but that a beginning ends them.
func TestBeatsAmongSamples(t *testing.T) {
	r := of(t, often(3, 3))
	for i := range int64(3) {
		var want outcome
		if i == 2 {
			want = begins(4, 100*i+100)
		}
		says(t, r, want, beat(100*i+100, 100))
		says(t, r, nil, samples(100*i+101, 50, 99)...)
	}
	is(t, r, 4)
	says(t, r, ends(4, 400), gap(400))
	says(t, r, nil, beat(500, 100), beat(600, 100))
	says(t, r, begins(4, 700), beat(700, 100))
}

// P22.1: what else a beat's mark has plays no part: its Beat's At, Seen and Back, and H; nor does a sample's Beat, nor anything but the At of others.
func TestWhatPlaysNoPart(t *testing.T) {
	var x noise
	for range 60 {
		l := x.limits()
		plain := x.rowOf(l, 300)
		var stained []api.Mark
		for i, m := range plain {
			s := api.Mark{Kind: m.Kind, At: m.At, H: x.whole(), Beat: api.Beat{At: x.whole(), Seen: x.whole(), RR: x.one(1, x.whole(), l.Tach), Back: x.upTo(2) == 0}}
			if m.Kind == 4 {
				s.H = m.H
			}
			if m.Kind == 6 {
				s.Beat.RR = m.Beat.RR
			}
			plain[i] = api.Mark{Kind: m.Kind, At: m.At}
			if m.Kind == 4 {
				plain[i].H = m.H
			}
			if m.Kind == 6 {
				plain[i].Beat.RR = m.Beat.RR
			}
			stained = append(stained, s)
		}
		says(t, of(t, l), of(t, l).Push(plain...), stained...)
	}
}
