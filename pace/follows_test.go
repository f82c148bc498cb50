package pace_test

import (
	"slices"
	"testing"

	"systole/pace"
)

// between looks that the mean is not below the least, nor above the greatest of the last distances.
func between(t *testing.T, p *pace.Pace, came []int64) {
	t.Helper()
	last := lastOf(came)
	if got := p.Mean(); got < slices.Min(last) || got > slices.Max(last) {
		t.Fatalf("the mean of %v: %d", last, got)
	}
}

// P18.3: the mean is between the last distances, as they count, of random distances of all kinds.
func TestBetween(t *testing.T) {
	var x noise
	for kind := range kinds {
		p := of(t)
		var came []int64
		for range 20000 {
			rr := x.distance(kind)
			p.Add(rr)
			came = append(came, rr)
			between(t, p, came)
			if x.upTo(100) == 0 {
				p.Reset()
				came = nil
			}
		}
	}
}

// P18.3: it is between them where all are close together, too, at either end of what counts, and where one alone is far from all others.
func TestBetweenClose(t *testing.T) {
	var x noise
	for _, rr := range edges() {
		for range 20 {
			var l []int64
			for range 1 + x.upTo(12) {
				l = append(l, counts(rr)+int64(x.upTo(2)))
			}
			between(t, of(t, l...), l)
			l[x.upTo(len(l))] = x.whole()
			between(t, of(t, l...), l)
		}
	}
}

// P18.3: of distances that are all the same the mean is that one, however many there are, and whatever came ahead of 8 of them.
func TestTheSame(t *testing.T) {
	var x noise
	for _, rr := range edges() {
		p := of(t)
		for range 20 {
			p.Add(rr)
			if got := p.Mean(); got != counts(rr) {
				t.Fatalf("the mean of %d again and again: %d", rr, got)
			}
		}
		p = of(t, x.row(mixed, x.upTo(20))...)
		p.Add(times(rr, 8)...)
		if got := p.Mean(); got != counts(rr) {
			t.Fatalf("the mean of 8 times %d, behind others: %d", rr, got)
		}
	}
	for rr := int64(1); rr < 3000; rr++ {
		for many := 1; many <= 8; many++ {
			if got := of(t, times(rr, many)...).Mean(); got != rr {
				t.Fatalf("the mean of %d times %d: %d", many, rr, got)
			}
		}
	}
}

// P18.4: what is late is later, too: behind each number, from below 0 on, and at the edges.
func TestLater(t *testing.T) {
	var x noise
	sinces := slices.Sorted(slices.Values(edges()))
	for kind := range kinds {
		for many := range 10 {
			p := of(t, x.row(kind, many)...)
			late := false
			for _, since := range sinces {
				if late && !p.Late(since) {
					t.Fatalf("of a mean of %d: late, but not behind %d any more", p.Mean(), since)
				}
				late = p.Late(since)
			}
			if late != (many > 0) {
				t.Fatalf("of %d distances, late at the end: %v", many, late)
			}
		}
	}
}

// P18.4: likewise sample by sample, through the one at which it becomes late, and by steps of any size.
func TestLaterSampleBySample(t *testing.T) {
	var x noise
	for range 200 {
		p := of(t, x.row(1, 1+x.upTo(10))...)
		turns := 0
		for since := int64(-10); since < 1000; since++ {
			if p.Late(since) != p.Late(since+1) {
				turns++
			}
			if p.Late(since) && !(p.Late(since+1) && p.Late(since+1+int64(x.upTo(maxRR))) && p.Late(most)) {
				t.Fatalf("of a mean of %d: late behind %d, but not later", p.Mean(), since)
			}
		}
		if turns != 1 {
			t.Fatalf("of a mean of %d it turns %d times", p.Mean(), turns)
		}
	}
}

// Long rows of random distances, small and great, in calls of random lengths with resets between, against a reckoning by the chapter's words.
func TestRows(t *testing.T) {
	var x noise
	for kind := range kinds {
		h := heldOf(t)
		for range 20000 {
			h.add(t, x.row(kind, x.upTo(5))...)
			since := x.distance(mixed)
			if got, want := h.Late(since), lateOf(h.came, since); got != want {
				t.Fatalf("behind %v: Late(%d): %v", lastOf(h.came), since, got)
			}
			// No more is looked at than the last 8: so no more is kept here.
			h.came = slices.Clone(h.came[max(0, len(h.came)-8):])
			if x.upTo(50) == 0 {
				h.reset(t)
			}
		}
	}
}

// Long rows of all kinds, in one call, against the same reckoning, and against the same ones one by one.
func TestRowsInOneCall(t *testing.T) {
	var x noise
	for kind := range kinds {
		for range 200 {
			row := x.row(kind, x.upTo(300))
			one := of(t, row...)
			isOf(t, one, row)
			other := of(t)
			for _, rr := range row {
				other.Add(rr)
			}
			isOf(t, other, row)
		}
	}
}

// After very many distances without Reset the mean is still that of the last 8.
func TestVeryMany(t *testing.T) {
	var x noise
	p := of(t)
	var came []int64
	for i := range 1000000 {
		rr := x.distance(i >> 10 % kinds)
		p.Add(rr)
		came = append(came[max(0, len(came)-7):], rr)
		if got, want := p.Mean(), meanOf(came); got != want {
			t.Fatalf("at %d: the mean of %v: %d; want %d", i, came, got, want)
		}
	}
	is(t, p, 8, meanOf(came), floor(5*meanOf(came), 3))
}

// To be asked does nothing: with it and without, all answers are the same.
func TestAskingDoesNothing(t *testing.T) {
	var x noise
	one, other := of(t), of(t)
	for range 3000 {
		rr := x.distance(mixed)
		one.Add(rr)
		other.Add(rr)
		for range x.upTo(4) {
			one.Late(x.whole())
			one.Mean()
			one.Many()
			pace.Rate(x.whole())
		}
		if x.upTo(20) == 0 {
			one.Reset()
			other.Reset()
		}
	}
	if one.Mean() != other.Mean() || one.Many() != other.Many() {
		t.Errorf("%d of %d; without asking %d of %d", one.Mean(), one.Many(), other.Mean(), other.Many())
	}
}

// R4: what is handed in is as it was, a list that is handed on as distances, too, and nothing behind its length is read or written.
func TestArgumentsStay(t *testing.T) {
	l := []int64{-5, 1000, most, 7, least, 0, maxRR + 1, 60, 61, 62}
	was := slices.Clone(l)
	for from := range len(l) + 1 {
		for to := from; to <= len(l); to++ {
			p := of(t, l[from:to]...)
			isOf(t, p, was[from:to])
			p.Add(l[from:to]...)
			isOf(t, p, slices.Concat(was[from:to], was[from:to]))
			p.Reset()
			if !slices.Equal(l, was) {
				t.Fatalf("the distances are %v", l)
			}
		}
	}
}

// R4: nothing that is handed in is kept: whoever handed it in may change it.
func TestArgumentsAreNotKept(t *testing.T) {
	l := []int64{100, 200, 301}
	p := of(t, l...)
	for i := range l {
		l[i] = 5000
	}
	is(t, p, 3, 200, 333)
	p.Add(l[:0]...)
	is(t, p, 3, 200, 333)
	p.Add(times(8, 8)...)
	if want := []int64{5000, 5000, 5000}; !slices.Equal(l, want) {
		t.Errorf("the list is %v", l)
	}
}
