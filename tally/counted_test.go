package tally_test

import (
	"slices"
	"testing"

	"systole/tally"
)

// The chapter's example.
func TestExample(t *testing.T) {
	x := of(t, often(2, 3))
	for i, rr := range []int64{90, 120, 100, 99} {
		x.Beat(1000+int64(i)*100, rr)
		is(t, x, true, i == 3, false)
	}
}

// P20.2: behind each distance of a row, written out, whether it is a tachycardia (t), a bradycardia (b), or none (-).
func TestCounted(t *testing.T) {
	for _, c := range []struct {
		tachN, bradN int64
		rrs          []int64
		want         string
	}{
		{1, 1, []int64{100, 101, 99, 1, 239, 240, 241, 240, 239, 100}, "t-tt-bbb-t"},
		{2, 3, []int64{100, 100, 100, 101, 100, 99, 98, 240, 97, 96}, "-tt--tt--t"},
		{2, 3, []int64{240, 240, 240, 241, 239, 240, 240, 240, 100, 240}, "--bb---b--"},
		{3, 2, []int64{50, 50, 300, 50, 50, 50, 300, 300, 50, 300}, "-----t-b--"},
		{5, 3, []int64{1, 2, 3, 4, 5, 6, 2000, 2000, 2000, most}, "----tt--bb"},
		{5, 3, []int64{90, 90, 90, 90, 150, 90, 90, 90, 90, 90}, "---------t"},
		{2, 2, []int64{0, 90, 0, 0, 90, -1, 150, 0, 90, 90}, "----tt---t"},
		{2, 2, []int64{300, least, 300, -7, 0, 120, 300, -300, 0, 300}, "--bbb----b"},
	} {
		x := of(t, often(c.tachN, c.bradN))
		for i, rr := range c.rrs {
			x.Beat(int64(i), rr)
			is(t, x, true, c.want[i] == 't', c.want[i] == 'b')
		}
		// All at once comes to the same as the last one.
		x = of(t, often(c.tachN, c.bradN))
		x.Beat(0, c.rrs...)
		last := c.want[len(c.want)-1]
		is(t, x, true, last == 't', last == 'b')
	}
}

// P20.2: which counts are gone behind a distance: behind 4 of 5 fast ones, or 2 of 3 slow ones, and a distance, one more fast one, or slow one, says so. For each number up to beyond Brad, and the ends.
func TestAtTheLimits(t *testing.T) {
	l := []int64{most, most - 1, 1 << 62, 1 << 40, 1 << 32, 1<<32 + 1, 1<<32 + 90, 1 << 31, 1<<31 + 90}
	for rr := int64(1); rr < 300; rr++ {
		l = append(l, rr)
	}
	for _, rr := range l {
		fast, slow := rr <= 100, rr >= 240
		x := of(t, usual())
		x.Beat(0, times(90, 4)...)
		x.Beat(0, rr)
		is(t, x, true, fast, false)
		x.Beat(0, 90)
		is(t, x, true, fast, false)
		x.Beat(0, 90, 90, 90, 90)
		is(t, x, true, true, false)
		x = of(t, usual())
		x.Beat(0, 300, 300)
		x.Beat(0, rr)
		is(t, x, true, false, slow)
		x.Beat(0, 300)
		is(t, x, true, false, slow)
		x.Beat(0, 300, 300)
		is(t, x, true, false, true)
	}
}

// P20.2: the same at the limits of other tallies, Brad just above Tach among them.
func TestAtOtherLimits(t *testing.T) {
	for _, c := range [][2]int64{{40, 41}, {40, 2000}, {100, 101}, {100, 102}, {399, 400}, {400, 401}, {400, 402}, {400, 2000}} {
		l := often(1, 1)
		l.Tach, l.Brad = c[0], c[1]
		x := of(t, l)
		for _, rr := range []int64{1, c[0] - 1, c[0], c[0] + 1, c[1] - 1, c[1], c[1] + 1, 1, c[1], c[0], 2001, c[1] - 1, c[0] + 1, most} {
			x.Beat(7, rr)
			is(t, x, true, rr <= c[0], rr >= c[1])
		}
	}
}

// P20.4: for each TachN one less in a row is none, so many is one, and so is any more of them; one that is not fast among them: it counts from anew.
func TestFastInARow(t *testing.T) {
	for n := int64(1); n <= 20; n++ {
		for _, fast := range []int64{1, 99, 100} {
			for _, other := range []int64{101, 239, 240, most} {
				x := of(t, often(n, 20))
				for many := int64(1); many < 3*n; many++ {
					x.Beat(many, fast)
					is(t, x, true, many >= n, false)
				}
				x.Beat(0, times(fast, 1000)...)
				is(t, x, true, true, false)
				x.Beat(0, other)
				is(t, x, true, false, false)
				for ahead := range n {
					x.Beat(0, times(fast, ahead)...)
					x.Beat(0, other)
					is(t, x, true, false, false)
					x.Beat(0, times(fast, n-1)...)
					is(t, x, true, false, false)
					x.Beat(0, fast)
					is(t, x, true, true, false)
					x.Beat(0, other)
				}
			}
		}
	}
}

// P20.4: likewise for each BradN.
func TestSlowInARow(t *testing.T) {
	for n := int64(1); n <= 20; n++ {
		for _, slow := range []int64{240, 241, 5000, most} {
			for _, other := range []int64{1, 100, 101, 239} {
				x := of(t, often(20, n))
				for many := int64(1); many < 3*n; many++ {
					x.Beat(many, slow)
					is(t, x, true, false, many >= n)
				}
				x.Beat(0, times(slow, 1000)...)
				is(t, x, true, false, true)
				x.Beat(0, other)
				is(t, x, true, false, false)
				for ahead := range n {
					x.Beat(0, times(slow, ahead)...)
					x.Beat(0, other)
					is(t, x, true, false, false)
					x.Beat(0, times(slow, n-1)...)
					is(t, x, true, false, false)
					x.Beat(0, slow)
					is(t, x, true, false, true)
					x.Beat(0, other)
				}
			}
		}
	}
}

// P20.2: very many in a row are no fewer.
func TestVeryManyInARow(t *testing.T) {
	for _, c := range []struct {
		rr         int64
		tach, brad bool
	}{{90, true, false}, {150, false, false}, {300, false, true}} {
		x := of(t, often(20, 20))
		l := times(c.rr, 1<<16+3)
		for range 40 {
			x.Beat(0, l...)
			is(t, x, true, c.tach, c.brad)
		}
	}
}

// P20.2: each distance below 1 is passed over, alone, ahead of others, among them, and behind them: what was counted stays.
func TestPassedOver(t *testing.T) {
	for _, no := range none() {
		x := of(t, often(2, 2))
		x.Beat(0, no)
		is(t, x, true, false, false)
		x.Beat(0, no, no, no)
		is(t, x, true, false, false)
		x.Beat(0, no, 90)
		is(t, x, true, false, false)
		x.Beat(0, no)
		is(t, x, true, false, false)
		x.Beat(0, 90, no)
		is(t, x, true, true, false)
		x.Beat(0, no, no)
		is(t, x, true, true, false)
		x.Beat(0, 300, no)
		is(t, x, true, false, false)
		x.Beat(0, no, no, 300)
		is(t, x, true, false, true)
		x.Beat(0, no)
		is(t, x, true, false, true)
		x.Beat(0, 150, no, 90, no, 90, no)
		is(t, x, true, true, false)
		x.Beat(0, no, 150, no, 300, no, no, 300, no)
		is(t, x, true, false, true)
	}
	x := of(t, often(2, 2))
	x.Beat(0, 90)
	x.Beat(0, none()...)
	x.Beat(0, 90)
	is(t, x, true, true, false)
}

// P20.2: a beat without a distance: what was counted stays, and that it came counts.
func TestBeatWithoutADistance(t *testing.T) {
	x := of(t, often(2, 2))
	x.Beat(500)
	is(t, x, true, false, false)
	stillFrom(t, x, 1300)
	x.Beat(600, 90)
	x.Beat(700)
	x.Beat(800, nil...)
	x.Beat(900, []int64{}...)
	is(t, x, true, false, false)
	stillFrom(t, x, 1700)
	x.Beat(1000, 90)
	is(t, x, true, true, false)
	x.Beat(1100)
	is(t, x, true, true, false)
	stillFrom(t, x, 1900)
	x.Beat(1200, 300, 300)
	x.Beat(1300)
	is(t, x, true, false, true)
	stillFrom(t, x, 2100)
}

// P20.2: the same distances in one call, one by one, and in calls of two parts, wherever they are parted, come to the same.
func TestPieces(t *testing.T) {
	var x noise
	for range 150 {
		limits := x.limits()
		row := x.row(limits, x.upTo(45))
		heldOf(t, limits).beat(t, 5, row...)
		h := heldOf(t, limits)
		for _, rr := range row {
			h.beat(t, 5, rr)
		}
		for at := range len(row) + 1 {
			h = heldOf(t, limits)
			h.beat(t, 5, row[:at]...)
			h.beat(t, 5, row[at:]...)
		}
	}
}

// P20.2: each way to cut a short row, and each row of five distances of all kinds.
func TestEachCut(t *testing.T) {
	kinds := []int64{0, 100, 101, 239, 240}
	limits := often(2, 2)
	for code := range 5 * 5 * 5 * 5 * 5 {
		var row []int64
		for range 5 {
			row = append(row, kinds[code%5])
			code /= 5
		}
		whole := of(t, limits)
		whole.Beat(9, row...)
		for cuts := range 1 << 4 {
			h := &held{Tally: of(t, limits), words: reckoning{limits: limits}}
			from := 0
			for i := range row {
				if i == len(row)-1 || cuts>>i&1 == 1 {
					h.beat(t, 9, row[from:i+1]...)
					from = i + 1
				}
			}
			is(t, whole, true, h.Tach(), h.Brad())
		}
	}
}

// P20.4: it is never a tachycardia and a bradycardia at once, also where one of each is enough, and Brad is just above Tach.
func TestNeverBoth(t *testing.T) {
	var x noise
	for range 200 {
		limits := x.limits()
		limits.Brad = x.one(limits.Brad, limits.Tach+1)
		limits.TachN, limits.BradN = x.one(1, limits.TachN), x.one(1, limits.BradN)
		y := of(t, limits)
		fast, slow := 0, 0
		for range 300 {
			y.Beat(x.upTo(1000), x.row(limits, x.upTo(8))...)
			if y.Tach() && y.Brad() {
				t.Fatalf("both, by %+v", limits)
			}
			if y.Tach() {
				fast++
			}
			if y.Brad() {
				slow++
			}
		}
		if limits.TachN == 1 && limits.BradN == 1 && (fast < 20 || slow < 20) {
			t.Errorf("by %+v there were %d and %d", limits, fast, slow)
		}
	}
}

// R4: what is handed in is as it was, a list that is handed on as distances, too, and nothing behind its length is read or written.
func TestArgumentsStay(t *testing.T) {
	l := []int64{-5, 90, most, 90, least, 0, 100, 300, 240, 91, 101, 239}
	was := slices.Clone(l)
	for from := range len(l) + 1 {
		for to := from; to <= len(l); to++ {
			h := heldOf(t, often(2, 2))
			h.beat(t, 50, l[from:to]...)
			h.beat(t, 60, l[from:to]...)
			h.begin(t, 70)
			h.reset(t)
			if !slices.Equal(l, was) {
				t.Fatalf("the distances are %v", l)
			}
		}
	}
}

// R4: nothing that is handed in is kept: whoever handed it in may change it.
func TestArgumentsAreNotKept(t *testing.T) {
	l := []int64{90, 90, 90}
	x := of(t, often(4, 2))
	x.Beat(0, l...)
	for i := range l {
		l[i] = 5000
	}
	is(t, x, true, false, false)
	x.Beat(0, 90)
	is(t, x, true, true, false)
	x.Beat(0, l[:0]...)
	is(t, x, true, true, false)
	if want := []int64{5000, 5000, 5000}; !slices.Equal(l, want) {
		t.Errorf("the list is %v", l)
	}
}

// R4: limits that are changed by whoever handed them in, behind New: the tally's stay as they were; so it is behind Reset.
func TestLimitsStay(t *testing.T) {
	l := usual()
	x, e := tally.New(l)
	if e != 0 {
		t.Fatal(e)
	}
	want := l
	l.Asys, l.Tach, l.TachN, l.Brad, l.BradN = 200, 200, 1, 201, 1
	if x.Limits != want {
		t.Errorf("the limits are %+v", x.Limits)
	}
	for range 2 {
		x.Beat(0, 90, 90, 90, 90)
		is(t, x, true, false, false)
		x.Beat(0, 90)
		is(t, x, true, true, false)
		x.Beat(0, 205, 205, 205)
		is(t, x, true, false, false)
		stillFrom(t, x, 800)
		l.Asys = 6000
		x.Reset()
		isNew(t, x)
	}
	y := of(t, l)
	y.Beat(0, 150)
	is(t, y, true, true, false)
	stillFrom(t, y, 6000)
}
