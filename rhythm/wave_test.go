package rhythm_test

import (
	"slices"
	"testing"

	"systole/api"
)

// flutters is the usual limits with another height, and another number of crossings.
func flutters(height, many int64) api.Limits {
	l := usual()
	l.Fib, l.FibN, l.Asys = height, many, 6000
	return l
}

// P22.2: a fibrillation begins with the FibN-th crossing, not with the one ahead of it, and stays with one more; for each height and number.
func TestFibBegins(t *testing.T) {
	for _, height := range []int64{1, 200, 65536, highest} {
		for _, many := range []int64{1, 2, 3, 12, 199, 200} {
			r := of(t, flutters(height, many))
			// The FibN-th crossing is the value with this number.
			number := 2*many - 1
			for _, m := range flutter(0, height, int(number)) {
				says(t, r, nil, m)
				is(t, r)
			}
			says(t, r, begins(3, number), sample(number, height))
			is(t, r, 3)
			says(t, r, nil, sample(number+1, height-1))
			says(t, r, nil, sample(number+2, height))
			is(t, r, 3)
		}
	}
}

// P22.2: a value counts by whether it is below the height alone, and however far.
func TestFibHeights(t *testing.T) {
	for _, height := range []int64{1, 2, 200, highest} {
		for _, low := range []int64{height - 1, height - 2, 0, -1, -height, -highest, least + 1, least} {
			for _, high := range []int64{height, height + 1, highest, highest + 1, 1 << 32, most} {
				r := of(t, flutters(height, 2))
				says(t, r, nil, sample(0, low), sample(1, high), sample(2, high), sample(3, low), sample(4, low))
				says(t, r, begins(3, 5), sample(5, high))
			}
		}
		// Values that are all below it, and values none of which is, have no crossing.
		r := of(t, flutters(height, 1))
		says(t, r, nil, sample(0, height-1), sample(1, 0), sample(2, height-1), sample(3, least))
		says(t, of(t, flutters(height, 1)), nil, sample(0, height), sample(1, most), sample(2, height))
	}
}

// P22.2: a fibrillation ends as soon as too few of the last FibWin samples are crossings.
func TestFibEnds(t *testing.T) {
	for _, many := range []int64{1, 2, 12, 100} {
		r := of(t, flutters(200, many))
		r.Push(flutter(0, 200, int(2*many))...)
		is(t, r, 3)
		// The first crossing is the second value; it is the first one of the window at sample 400.
		says(t, r, nil, samples(2*many, 200, int(401-2*many))...)
		is(t, r, 3)
		says(t, r, ends(3, 401), sample(401, 200))
		is(t, r)
		says(t, r, nil, samples(402, 200, 500)...)
	}
	// By turns all along there are as many as there can be; it ends with two values alike.
	r := of(t, flutters(200, 200))
	says(t, r, begins(3, 399), flutter(0, 200, 5000)...)
	says(t, r, nil, sample(5000, 199), sample(5001, 200), sample(5002, 200))
	says(t, r, ends(3, 5003), sample(5003, 200))
}

// P22.2: it ends, and begins again, as crossings go and come; at numbers of samples that leave others out as well, as each sample is one value.
func TestFibTurns(t *testing.T) {
	r := of(t, flutters(200, 1))
	says(t, r, begins(3, 10), sample(0, 0), sample(10, 200))
	says(t, r, nil, samples(20, 200, 399)...)
	says(t, r, ends(3, 1000), sample(1000, 200))
	says(t, r, nil, sample(1001, 199))
	says(t, r, begins(3, 1002), sample(1002, 200))
	// A sample that is ahead of others is one value more, too.
	says(t, r, nil, samples(0, 200, 399)...)
	says(t, r, ends(3, 5), sample(5, 200))
}

// P22.1: what stands at a gap, a lead that comes on, and one that goes off, ends there, and needs FibN crossings anew.
func TestFibAnew(t *testing.T) {
	for _, c := range []struct {
		m    []api.Mark
		want outcome
	}{
		{[]api.Mark{gap(900)}, ends(3, 900)},
		{[]api.Mark{on(900)}, ends(3, 900)},
		{[]api.Mark{off(900)}, and(begins(1, 900), ends(3, 900))},
		{[]api.Mark{off(900), on(901)}, and(begins(1, 900), ends(3, 900), ends(1, 901))},
	} {
		r := of(t, flutters(200, 3))
		says(t, r, begins(3, 5), flutter(0, 200, 6)...)
		says(t, r, c.want, c.m...)
		if r.Off() {
			says(t, r, nil, flutter(901, 200, 20)...)
			says(t, r, ends(1, 950), on(950))
		}
		is(t, r)
		says(t, r, nil, flutter(1000, 200, 5)...)
		says(t, r, begins(3, 1005), sample(1005, 200))
	}
}

// P22.1: beats, and marks that say nothing, leave the crossings as they are, and are no values.
func TestFibAmongBeats(t *testing.T) {
	plain := append(flutter(0, 200, 30), samples(30, 200, 500)...)
	plain = append(plain, flutter(530, 200, 90)...)
	alone := of(t, flutters(200, 12)).Push(plain...)
	if want := and(begins(3, 23), ends(3, 407), begins(3, 553)); !slices.Equal(alone, want) {
		t.Fatalf("alone: %v; want %v", alone, want)
	}
	for _, more := range []api.Mark{beat(0, 0), beat(0, 150), {Kind: 6, H: 199, Beat: api.Beat{RR: 150}}, {Kind: 6, H: 900}, dark(0), {Kind: 5, H: 100}, {Kind: 0, H: 100}, {Kind: 7, H: 300}} {
		var row []api.Mark
		for _, m := range plain {
			row = append(row, m, at(m.At, more))
		}
		says(t, of(t, flutters(200, 12)), alone, row...)
		if more.Kind == 6 {
			row = append([]api.Mark{at(0, more)}, plain...)
			says(t, of(t, flutters(200, 12)), alone, row...)
		}
	}
}
