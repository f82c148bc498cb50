package rhythm_test

import (
	"testing"

	"systole/api"
)

// from are rows of marks behind which a beat is missed from sample 1000 on.
func from() [][]api.Mark {
	return [][]api.Mark{
		{sample(1000, 0)},
		{beat(1000, 0)},
		{beat(1000, -7)},
		{beat(1000, 1)},
		{beat(1000, 150)},
		{gap(1000)},
		{on(1000)},
		{off(990), on(1000)},
		{off(990), gap(995), on(1000)},
		{sample(990, 0), beat(1000, 0)},
		{sample(990, 0), gap(1000)},
		{beat(900, 0), beat(1000, 100)},
		{beat(900, 0), gap(1000)},
		{beat(900, 0), on(1000)},
		{gap(900), beat(1000, 0)},
		{beat(1100, 0), beat(1000, 0)},
		{gap(990), sample(991, 0), gap(1000), sample(1001, 0)},
		{dark(900), sample(1000, 0)},
	}
}

// P22.1, P22.2, P22.5: an asystole begins just Asys behind the last beat, or the beginning, be that the first sample, a gap, or a lead that comes on; it is told once.
func TestAsystoleBegins(t *testing.T) {
	for _, n := range []int64{200, 201, 800, 6000} {
		for _, row := range from() {
			r := of(t, asys(n))
			r.Push(row...)
			says(t, r, nil, sample(1000+n-2, 0), sample(1000+n-1, 0))
			is(t, r)
			says(t, r, begins(2, 1000+n), sample(1000+n, 0))
			is(t, r, 2)
			says(t, r, nil, sample(1000+n+1, 0), sample(1000+n+2, 0), sample(1000+4*n, 0))
			is(t, r, 2)
		}
	}
}

// P22.5: of samples that leave numbers out, it begins at the first one that is Asys behind or more.
func TestAsystoleOfSamplesLeftOut(t *testing.T) {
	for _, row := range from() {
		for _, n := range []int64{1200, 1201, 1202, 1350, 1399, 1400, 3000, maxAt, maxAt + 1, most} {
			r := of(t, asys(200))
			r.Push(row...)
			says(t, r, nil, sample(1199, 0))
			says(t, r, begins(2, n), sample(n, 0))
			is(t, r, 2)
		}
	}
}

// P22.5: it ends with the next beat, a gap, and a lead that goes off, or comes on; and begins again Asys behind.
func TestAsystoleEnds(t *testing.T) {
	for _, n := range []int64{200, 6000} {
		for _, c := range []struct {
			m    api.Mark
			more outcome
		}{{beat(20000, 0), nil}, {beat(20000, 9), nil}, {beat(20000, most), nil}, {gap(20000), nil}, {on(20000), nil}, {off(20000), begins(1, 20000)}} {
			r := of(t, asys(n))
			says(t, r, begins(2, 10000), sample(1, 0), sample(10000, 0))
			says(t, r, and(c.more, ends(2, 20000)), c.m)
			if c.more != nil {
				says(t, r, nil, sample(20000+n, 0), beat(30000, 0))
				says(t, r, ends(1, 20000), on(20000))
			}
			is(t, r)
			says(t, r, nil, sample(20000+n-1, 0))
			says(t, r, begins(2, 20000+n), sample(20000+n, 0))
		}
	}
}

// P22.2, P22.5: with a beat in each Asys samples there is none, however many come; samples one by one between them.
func TestNoAsystole(t *testing.T) {
	r := of(t, asys(200))
	for n := range int64(5000) {
		says(t, r, nil, sample(n, 0))
		// It is told of first, then the beat that the sample shows.
		if n%199 == 198 {
			says(t, r, nil, beat(n, 199))
		}
	}
	is(t, r)
}

// P22.2: a beat, a gap, and a lead that goes off or comes on, are never at an asystole, however far behind the last beat they are.
func TestNoAsystoleAtOthers(t *testing.T) {
	for _, n := range []int64{0, 1199, 1200, 1201, 9000, maxAt, maxAt + 200, most} {
		for _, row := range from() {
			r := of(t, asys(200))
			r.Push(row...)
			says(t, r, nil, beat(n, 0))
			says(t, r, nil, gap(n), gap(0), gap(n), on(0), on(n))
			says(t, r, begins(1, n), off(n))
			is(t, r, 1)
		}
	}
}

// P22.2: at a sample that is ahead of where it began, or less than Asys behind it, no beat is missing: an asystole that is there ends, with that sample's At.
func TestSamplesAhead(t *testing.T) {
	for _, row := range from() {
		for _, n := range []int64{1199, 1001, 1000, 999, 1, 0, -1, least} {
			r := of(t, asys(200))
			r.Push(row...)
			says(t, r, nil, sample(n, 0))
			says(t, r, begins(2, 1300), sample(1300, 0))
			says(t, r, ends(2, n), sample(n, 0))
			is(t, r)
			says(t, r, begins(2, 1200), sample(1200, 0))
		}
	}
	// The last beat is the one that came last, also where it is ahead of another one.
	r := of(t, asys(200))
	says(t, r, nil, beat(5000, 0), beat(300, 0), sample(499, 0))
	says(t, r, begins(2, 500), sample(500, 0))
	says(t, r, ends(2, 350), beat(350, 50))
	says(t, r, begins(2, 600), sample(549, 0), sample(600, 0))
}

// P22.2: numbers of samples count as the nearest ones from 0 to MaxAt; what is told has the mark's own At.
func TestAsystoleAtEnds(t *testing.T) {
	for _, first := range []api.Mark{gap(0), on(0), sample(0, 0), beat(0, 0)} {
		for _, n := range []int64{0, -1, -200, -maxAt, least + 1, least} {
			r := of(t, asys(200))
			says(t, r, nil, at(n, first), sample(199, 0))
			says(t, r, begins(2, 200), sample(200, 0))
			says(t, r, ends(2, n), sample(n, 0))
		}
		for _, n := range []int64{maxAt, maxAt + 1, maxAt + 200, 1<<41 + 5, most - 1, most} {
			r := of(t, asys(200))
			says(t, r, nil, at(maxAt-200, first), sample(maxAt-1, 0))
			says(t, r, begins(2, n), sample(n, 0))
			says(t, r, ends(2, n), at(n, beat(0, 0)))
			says(t, r, nil, sample(most, 0), sample(maxAt, 0))

			// Behind what is less than Asys ahead of MaxAt no beat is ever missing.
			for _, near := range []int64{maxAt - 199, maxAt - 1, maxAt, most} {
				r = of(t, asys(200))
				says(t, r, nil, at(near, first), sample(n, 0), sample(maxAt, 0), sample(most, 0))
				is(t, r)
			}
		}
	}
}

// P22.1: a sample begins nothing behind another beginning, nor does a second one behind a first one.
func TestOnlyTheFirstSampleBegins(t *testing.T) {
	r := of(t, asys(200))
	says(t, r, nil, sample(5, 0), sample(100, 0), sample(204, 0))
	says(t, r, begins(2, 205), sample(205, 0))
	r = of(t, asys(200))
	says(t, r, nil, gap(5), sample(100, 0), sample(204, 0))
	says(t, r, begins(2, 205), sample(205, 0))
	r = of(t, asys(200))
	says(t, r, nil, beat(5, 0), sample(100, 0), sample(204, 0))
	says(t, r, begins(2, 205), sample(205, 0))
	// One that is ahead of where it began begins nothing either.
	r = of(t, asys(200))
	says(t, r, nil, gap(300), sample(100, 0), sample(499, 0))
	says(t, r, begins(2, 500), sample(500, 0))
}
