package pace_test

import (
	"slices"
	"testing"

	"systole/api"
	"systole/pace"
)

// The chapter's examples, and what the limits are.
func TestExample(t *testing.T) {
	p := of(t, 100, 200, 301)
	if p.Mean() != 200 || p.Many() != 3 || p.Late(333) || !p.Late(334) || pace.Rate(200) != 60 {
		t.Errorf("Mean %d, Many %d, Rate %d", p.Mean(), p.Many(), pace.Rate(200))
	}
	if api.MaxRR != maxRR || api.Mean8 != 8 {
		t.Errorf("the limits are %d and %d", api.MaxRR, api.Mean8)
	}
}

// P18.1: a new pace has no distances, whichever call is the first one, and however long one waits nothing is late.
func TestNew(t *testing.T) {
	is(t, of(t), 0, 0, 0)
	for _, since := range edges() {
		if of(t).Late(since) {
			t.Errorf("a new pace is late behind %d", since)
		}
	}
	if got := of(t).Mean(); got != 0 {
		t.Errorf("Mean: %d", got)
	}
	if got := of(t).Many(); got != 0 {
		t.Errorf("Many: %d", got)
	}
	p := of(t)
	p.Reset()
	is(t, p, 0, 0, 0)
}

// P18.1: Add of no distance, be it of a new pace or of one with few or with many: it stays as it was.
func TestAddNone(t *testing.T) {
	h := heldOf(t)
	for i := range int64(20) {
		h.add(t)
		h.add(t, nil...)
		h.add(t, []int64{}...)
		h.add(t, 100+7*i)
	}
	h.add(t)
	is(t, h.Pace, 8, 208, 346)
}

// P18.1: Add of one distance, and of many in one call; written out.
func TestAdd(t *testing.T) {
	p := of(t, 200)
	is(t, p, 1, 200, 333)
	p.Add(301)
	is(t, p, 2, 250, 416)
	p.Add(100, 99, 1)
	is(t, p, 5, 140, 233)
	p.Add(300, 300, 300)
	is(t, p, 8, 200, 333)
	// The 200 goes.
	p.Add(208)
	is(t, p, 8, 201, 335)
	// So do the 301, 100 and 99.
	p.Add(100, 100, 100)
	is(t, p, 8, 176, 293)
	p.Add(1, 2, 3, 4, 5, 6, 7, 8, 9, 10, 11, 12)
	is(t, p, 8, 8, 13)
	is(t, of(t, 1, 2, 3, 4, 5, 6, 7, 8, 9, 10, 11, 12), 8, 8, 13)
}

// P18.1: the same distances in one call, one by one, and in calls of two parts, wherever they are parted, come to the same.
func TestPieces(t *testing.T) {
	var x noise
	for kind := range kinds {
		for many := range 21 {
			l := x.row(kind, many)
			heldOf(t).add(t, l...)
			h := heldOf(t)
			for _, rr := range l {
				h.add(t, rr)
			}
			for at := range many + 1 {
				h = heldOf(t)
				h.add(t, l[:at]...)
				h.add(t, l[at:]...)
				isOf(t, h.Pace, l)
			}
		}
	}
}

// P18.1: each way to cut a short row.
func TestEachCut(t *testing.T) {
	row := []int64{400, -3, most, 0, least, 700, 7, 1, maxRR, 33, 2, 90}
	for cuts := range 1 << (len(row) - 1) {
		h := heldOf(t)
		from := 0
		for i := range row {
			if i == len(row)-1 || cuts>>i&1 == 1 {
				h.add(t, row[from:i+1]...)
				from = i + 1
			}
		}
	}
}

// P18.1: Many, behind each number of distances: it stops at 8, be they equal, unlike, or such as count as another one.
func TestMany(t *testing.T) {
	for _, far := range []int64{0, 1, -1, 1000, maxRR, most / 100, least / 100} {
		one := of(t)
		for many := range 30 {
			if got := one.Many(); got != min(many, 8) {
				t.Errorf("behind %d distances: %d", many, got)
			}
			var l []int64
			for i := range int64(many) {
				l = append(l, i*far)
			}
			if got := of(t, l...).Many(); got != min(many, 8) {
				t.Errorf("behind %d distances in one call: %d", many, got)
			}
			one.Add(int64(many) * far)
		}
	}
	if got := of(t, times(7, 70000)...).Many(); got != 8 {
		t.Errorf("behind very many distances: %d", got)
	}
}

// P18.1: Mean of as many as came, and then of the last 8 alone: as each one comes; written out.
func TestMean(t *testing.T) {
	p := of(t)
	for i, c := range []struct{ rr, mean, upTo int64 }{
		{80, 80, 133}, {160, 120, 200}, {240, 160, 266}, {320, 200, 333}, {400, 240, 400}, {480, 280, 466}, {560, 320, 533}, {640, 360, 600},
		{80, 360, 600}, {160, 360, 600}, {1040, 460, 766}, {320, 460, 766}, {0, 410, 683}, {maxRR, 134218078, 223696796}, {560, 134218078, 223696796}, {640, 134218078, 223696796},
		{80, 134218078, 223696796}, {160, 134218078, 223696796}, {1040, 134218078, 223696796}, {320, 134218078, 223696796}, {1, 134218078, 223696796}, {1, 350, 583},
	} {
		p.Add(c.rr)
		is(t, p, min(i+1, 8), c.mean, c.upTo)
	}
}

// P18.1: one that is unlike all others counts as long as it is among the last 8, and behind 8 more no longer; written out.
func TestLone(t *testing.T) {
	for ahead := range 12 {
		p := of(t, times(100, ahead)...)
		p.Add(900)
		for behind := range 12 {
			many := min(ahead+1+behind, 8)
			mean := []int64{0, 900, 500, 366, 300, 260, 233, 214, 200}[many]
			if behind >= 8 {
				mean = 100
			}
			if got := p.Mean(); got != mean || p.Many() != many {
				t.Errorf("%d ahead and %d behind: %d of %d; want %d of %d", ahead, behind, got, p.Many(), mean, many)
			}
			p.Add(100)
		}
	}
}

// P18.1: what came ahead of the last 8 plays no part, whatever it was and however much.
func TestAheadOfTheLast(t *testing.T) {
	var x noise
	for _, rr := range edges() {
		for many := range 20 {
			last := x.row(mixed, 8)
			p := of(t, times(rr, many)...)
			p.Add(last...)
			isOf(t, p, last)
			isOf(t, of(t, slices.Concat(times(rr, many), last)...), last)
		}
	}
	for kind := range kinds {
		last := x.row(kind, 8)
		isOf(t, of(t, append(x.row(mixed, 5000), last...)...), last)
	}
}

// P18.1: the floor of the mean, of 1 to 8 distances, with each rest: it is as long the same as the rest is below how many they are.
func TestFloors(t *testing.T) {
	for many := 1; many <= 8; many++ {
		for _, mean := range []int64{1, 2, 3, 99, 100, 200, 255, 256, 1000, 65535, 1000000, 333333333, maxRR - 1} {
			for rest := range many {
				// So many are one more than the others; wherever they stand the mean is the same.
				l := slices.Concat(times(mean+1, rest), times(mean, many-rest))
				p := of(t, l...)
				if got := p.Mean(); got != mean || p.Many() != many {
					t.Errorf("%d distances of %d, and %d of one more: %d of %d", many-rest, mean, rest, got, p.Many())
				}
				slices.Reverse(l)
				if got := of(t, l...).Mean(); got != mean {
					t.Errorf("%d distances of %d, ahead of them %d of one more: %d", many-rest, mean, rest, got)
				}
				// The whole rest in the last one.
				p = of(t, append(times(mean, many-1), min(mean+int64(rest), maxRR))...)
				if got := p.Mean(); got != mean {
					t.Errorf("%d distances of %d, the last one being %d more: %d", many, mean, rest, got)
				}
			}
		}
	}
}

// P18.1: floors, written out.
func TestFloorsWrittenOut(t *testing.T) {
	for _, c := range []struct {
		l    []int64
		mean int64
	}{
		{[]int64{1}, 1}, {[]int64{2}, 2}, {[]int64{1, 2}, 1}, {[]int64{2, 1}, 1}, {[]int64{1, 3}, 2}, {[]int64{3, 4}, 3},
		{[]int64{1, 1, 2}, 1}, {[]int64{1, 2, 2}, 1}, {[]int64{2, 2, 2}, 2}, {[]int64{100, 200, 299}, 199}, {[]int64{100, 200, 300}, 200}, {[]int64{100, 200, 302}, 200}, {[]int64{100, 200, 303}, 201},
		{[]int64{1, 1, 1, 4}, 1}, {[]int64{1, 1, 1, 5}, 2}, {[]int64{10, 20, 30, 43}, 25}, {[]int64{10, 20, 30, 44}, 26},
		{[]int64{1, 1, 1, 1, 5}, 1}, {[]int64{1, 1, 1, 1, 6}, 2}, {[]int64{7, 7, 7, 7, 11}, 7}, {[]int64{7, 7, 7, 7, 12}, 8},
		{[]int64{1, 1, 1, 1, 1, 6}, 1}, {[]int64{1, 1, 1, 1, 1, 7}, 2}, {[]int64{1, 2, 3, 4, 5, 8}, 3}, {[]int64{1, 2, 3, 4, 5, 9}, 4},
		{[]int64{1, 1, 1, 1, 1, 1, 7}, 1}, {[]int64{1, 1, 1, 1, 1, 1, 8}, 2}, {[]int64{1, 2, 3, 4, 5, 6, 13}, 4}, {[]int64{1, 2, 3, 4, 5, 6, 14}, 5},
		{[]int64{1, 1, 1, 1, 1, 1, 1, 8}, 1}, {[]int64{1, 1, 1, 1, 1, 1, 1, 9}, 2}, {[]int64{100, 100, 100, 100, 100, 100, 100, 1}, 87}, {[]int64{100, 100, 100, 100, 100, 100, 100, 4}, 88},
	} {
		if got := of(t, c.l...).Mean(); got != c.mean {
			t.Errorf("Mean of %v: %d; want %d", c.l, got, c.mean)
		}
	}
}

// P18.1: distances below 1, at 0, at 1, at, just within and just beyond MaxRR, and at the ends of the range of 64 bits, alone and beside another one that tells what each counts as; written out.
func TestNearest(t *testing.T) {
	for _, c := range []struct{ rr, as, withFive int64 }{
		{least, 1, 3}, {least + 1, 1, 3}, {-1 << 62, 1, 3}, {-1<<32 + 5, 1, 3}, {-1 << 32, 1, 3}, {-1 << 31, 1, 3}, {-maxRR - 1, 1, 3}, {-maxRR, 1, 3}, {-200, 1, 3}, {-2, 1, 3}, {-1, 1, 3}, {0, 1, 3}, {1, 1, 3}, {2, 2, 3}, {3, 3, 4}, {200, 200, 102},
		{maxRR - 2, maxRR - 2, 536870913}, {maxRR - 1, maxRR - 1, 536870914}, {maxRR, maxRR, 536870914}, {maxRR + 1, maxRR, 536870914}, {maxRR + 2, maxRR, 536870914}, {2 * maxRR, maxRR, 536870914}, {1<<31 + 5, maxRR, 536870914}, {1 << 32, maxRR, 536870914}, {1<<32 + 5, maxRR, 536870914}, {1 << 40, maxRR, 536870914}, {1 << 62, maxRR, 536870914}, {most - 1, maxRR, 536870914}, {most, maxRR, 536870914},
	} {
		p := of(t, c.rr)
		is(t, p, 1, c.as, floor(5*c.as, 3))
		is(t, of(t, times(c.rr, 8)...), 8, c.as, floor(5*c.as, 3))
		p.Add(5)
		is(t, p, 2, c.withFive, floor(5*c.withFive, 3))
		is(t, of(t, 5, c.rr), 2, c.withFive, floor(5*c.withFive, 3))
		is(t, of(t, slices.Concat(times(77, 9), times(c.rr, 4), times(5, 4))...), 8, c.withFive, floor(5*c.withFive, 3))
	}
}

// P18.1: each such edge among others, and with each other one.
func TestEdges(t *testing.T) {
	for _, a := range edges() {
		heldOf(t).add(t, a)
		heldOf(t).add(t, 100, 200, a, 300, 400, 500, 600, 700)
		for _, b := range edges() {
			h := heldOf(t)
			h.add(t, a, b)
			h.add(t, 3, a, a, b)
			h.add(t, b)
			h.add(t, a, b, 1, 0, a)
			h.add(t, 1, 2, 3, 4, 5, 6, b)
			h.add(t, 8)
		}
	}
}

// P18.1: eight distances of MaxRR, and whatever counts as it: their sum is reckoned as if numbers had no end.
func TestGreatest(t *testing.T) {
	for _, rr := range []int64{maxRR, maxRR + 1, 1 << 32, 1 << 61, 1 << 62, most} {
		p := of(t)
		for many := range 20 {
			p.Add(rr)
			is(t, p, min(many+1, 8), 1073741824, 1789569706)
		}
		p.Add(maxRR - 1)
		is(t, p, 8, 1073741823, 1789569705)
		p.Add(times(rr, 8)...)
		is(t, p, 8, 1073741824, 1789569706)
	}
}

// P18.1: behind Reset it is as if none had come, however many had, and the distances behind it count alone; Reset twice is as once, and of a new pace nothing.
func TestReset(t *testing.T) {
	var x noise
	h := heldOf(t)
	h.reset(t)
	h.reset(t)
	for many := range 25 {
		for _, rr := range []int64{0, 1, 7, 200, maxRR, most, least} {
			h.add(t, times(rr, many)...)
			h.reset(t)
			if many%2 == 0 {
				h.reset(t)
			}
			h.add(t)
			h.add(t, 500)
			is(t, h.Pace, 1, 500, 833)
			h.add(t, 301, 100)
			is(t, h.Pace, 3, 300, 500)
			h.add(t, x.row(mixed, 9)...)
			h.reset(t)
		}
	}
}

// P18.1: behind Reset distances come one by one as to a new pace.
func TestResetIsNew(t *testing.T) {
	var x noise
	for range 300 {
		p := of(t, x.row(mixed, x.upTo(20))...)
		p.Reset()
		other := of(t)
		for _, rr := range x.row(mixed, 12) {
			if p.Mean() != other.Mean() || p.Many() != other.Many() {
				t.Fatalf("%d of %d; a new one %d of %d", p.Mean(), p.Many(), other.Mean(), other.Many())
			}
			p.Add(rr)
			other.Add(rr)
		}
	}
}

// P18.1: two paces know nothing of each other.
func TestTwo(t *testing.T) {
	var x noise
	one, other := heldOf(t), heldOf(t)
	for range 500 {
		one.add(t, x.row(mixed, x.upTo(5))...)
		isOf(t, other.Pace, other.came)
		other.add(t, x.row(mixed, x.upTo(5))...)
		isOf(t, one.Pace, one.came)
		if x.upTo(10) == 0 {
			other.reset(t)
			isOf(t, one.Pace, one.came)
		}
		if x.upTo(15) == 0 {
			one.reset(t)
			isOf(t, other.Pace, other.came)
		}
	}
}

// P18.1: each call of a pace that no call made, that is nil: nothing is done, and it stays so.
func TestNil(t *testing.T) {
	var p *pace.Pace
	is(t, p, 0, 0, 0)
	for range 2 {
		for _, n := range edges() {
			p.Add(n)
			p.Add(n, n, n)
			if p.Late(n) {
				t.Errorf("nil is late behind %d", n)
			}
			is(t, p, 0, 0, 0)
		}
		p.Add()
		p.Reset()
		is(t, p, 0, 0, 0)
		if p != nil {
			t.Error("it is not nil any more")
		}
	}
}
