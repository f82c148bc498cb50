package tally_test

import (
	"testing"
)

// P20.2: it is still from the sample on that is Asys behind where it began, or behind the last beat; sample by sample, for the least Asys, the greatest one, and others.
func TestStill(t *testing.T) {
	for _, n := range []int64{200, 201, 800, 5999, 6000} {
		for _, from := range []int64{0, 1, 5000, 1 << 32, maxAt - 6001, maxAt - 6000} {
			x := of(t, asys(n))
			x.Begin(from)
			for at := max(from-10, 0); at < from+n+10; at++ {
				if got := x.Still(at); got != (at >= from+n) {
					t.Fatalf("begun at %d, Asys %d, Still(%d): %v", from, n, at, got)
				}
			}
			stillFrom(t, x, from+n)
			x = of(t, asys(n))
			x.Beat(from)
			stillFrom(t, x, from+n)
			if from > 0 {
				x = of(t, asys(n))
				x.Begin(from - 1)
				x.Beat(from, 1)
				stillFrom(t, x, from+n)
			}
		}
	}
}

// P20.2: written out, by the usual limits.
func TestStillWrittenOut(t *testing.T) {
	x := of(t, usual())
	x.Begin(1000)
	for _, c := range []struct {
		at   int64
		want bool
	}{{1799, false}, {1800, true}, {1801, true}, {1000, false}, {999, false}, {0, false}, {-5, false}, {least, false}, {most, true}, {1799, false}} {
		if got := x.Still(c.at); got != c.want {
			t.Errorf("Still(%d): %v", c.at, got)
		}
	}
	x.Beat(1790, 90)
	for _, c := range []struct {
		at   int64
		want bool
	}{{1800, false}, {1790, false}, {1789, false}, {2589, false}, {2590, true}, {2591, true}, {0, false}} {
		if got := x.Still(c.at); got != c.want {
			t.Errorf("behind the beat: Still(%d): %v", c.at, got)
		}
	}
}

// P20.2: a beat at a sample ahead of that of the last one, or of where it began: the last beat is the one that was told last.
func TestBeatAheadOfTheLast(t *testing.T) {
	x := of(t, usual())
	x.Begin(9000)
	stillFrom(t, x, 9800)
	x.Beat(8000, 100)
	stillFrom(t, x, 8800)
	x.Beat(8500, 500)
	stillFrom(t, x, 9300)
	x.Beat(100, 100)
	stillFrom(t, x, 900)
	x.Beat(100)
	stillFrom(t, x, 900)
	x.Beat(-700, 100)
	stillFrom(t, x, 800)
	x.Beat(20000)
	stillFrom(t, x, 20800)
	x.Beat(19999, 0)
	stillFrom(t, x, 20799)
}

// P20.2: of a beat with many distances it is the sample that counts, and not the distances.
func TestStillBehindManyDistances(t *testing.T) {
	x := of(t, usual())
	x.Beat(3000, 5000, 90, 0, -4, 6000, most, least)
	stillFrom(t, x, 3800)
	x.Beat(3100, none()...)
	stillFrom(t, x, 3900)
}

// numbers are samples' numbers, and as what they count; written out.
func numbers() [][2]int64 {
	return [][2]int64{
		{least, 0}, {least + 1, 0}, {least + 777, 0}, {-1 << 62, 0}, {-1<<40 - 1, 0}, {-1 << 40, 0}, {-1<<32 + 5, 0}, {-800, 0}, {-2, 0}, {-1, 0},
		{0, 0}, {1, 1}, {2, 2}, {799, 799}, {800, 800}, {1<<31 - 1, 1<<31 - 1}, {1 << 31, 1 << 31}, {1 << 32, 1 << 32}, {1<<32 + 5, 1<<32 + 5},
		{1099511626975, 1099511626975}, {1099511626976, 1099511626976}, {1099511626977, 1099511626977},
		{1099511627774, 1099511627774}, {1099511627775, 1099511627775}, {1099511627776, 1099511627776}, {1099511627777, 1099511627776}, {1099511627778, 1099511627776},
		{1<<40 + 1000, 1099511627776}, {1 << 41, 1099511627776}, {1<<48 + 5, 1099511627776}, {1 << 62, 1099511627776}, {most - 800, 1099511627776}, {most - 1, 1099511627776}, {most, 1099511627776},
	}
}

// P20.2: numbers of samples of all kinds, of Begin, of Beat, and of Still: each counts as the nearest number from 0 to MaxAt.
func TestNumbers(t *testing.T) {
	for _, c := range numbers() {
		for _, n := range []int64{200, 800, 6000} {
			x := of(t, asys(n))
			x.Begin(c[0])
			is(t, x, true, false, false)
			stillFrom(t, x, c[1]+n)
			x.Begin(maxAt / 2)
			x.Beat(c[0], 90)
			stillFrom(t, x, c[1]+n)
			x.Reset()
			x.Beat(c[0])
			is(t, x, true, false, false)
			stillFrom(t, x, c[1]+n)
			for _, d := range numbers() {
				if got, want := x.Still(d[0]), d[1]-c[1] >= n; got != want {
					t.Errorf("the last beat at %d, Asys %d, Still(%d): %v", c[0], n, d[0], got)
				}
			}
		}
	}
}

// P20.2: at the end of what counts, written out: of a beat that is less than Asys ahead of MaxAt it is never still.
func TestStillAtMaxAt(t *testing.T) {
	for _, c := range []struct {
		last  int64
		still bool
	}{{1099511626975, true}, {1099511626976, true}, {1099511626977, false}, {1099511627776, false}, {1099511628576, false}, {most, false}} {
		x := of(t, usual())
		x.Beat(c.last)
		for _, at := range []int64{1099511627776, 1099511627777, 1 << 50, most} {
			if got := x.Still(at); got != c.still {
				t.Errorf("the last beat at %d, Still(%d): %v", c.last, at, got)
			}
		}
	}
}

// P20.5: with a beat in each Asys samples, the longest span among them being Asys, it is never still, as one asks behind each sample; with one sample more in a span it is, there alone.
func TestBeatInEachAsys(t *testing.T) {
	var x noise
	for _, n := range []int64{200, 799, 800, 6000} {
		for _, longer := range []int64{0, 1} {
			y := of(t, asys(n))
			y.Begin(70)
			next := 70 + n
			still := 0
			for at := int64(70); at < 70+20*n; at++ {
				if at == next {
					y.Beat(at, n)
					next += n
					if at == 70+10*n {
						next += longer
					}
				}
				if y.Still(at) {
					still++
					if longer == 0 || at != 70+11*n {
						t.Fatalf("Asys %d: still at %d", n, at)
					}
				}
			}
			if int64(still) != longer {
				t.Errorf("Asys %d: %d times still", n, still)
			}
		}
		// Likewise with shorter spans.
		y := of(t, asys(n))
		next := int64(0)
		for at := range 30 * n {
			if at == next {
				y.Beat(at)
				next += x.one(1, n, n, x.from(1, n))
			}
			if y.Still(at) {
				t.Fatalf("Asys %d: still at %d", n, at)
			}
		}
	}
}

// P20.5: without a beat in so many samples it is still, and stays so, sample by sample, till one comes.
func TestWithoutABeat(t *testing.T) {
	x := of(t, asys(200))
	x.Beat(40)
	for at := int64(40); at < 5000; at++ {
		if got := x.Still(at); got != (at >= 240) {
			t.Fatalf("Still(%d): %v", at, got)
		}
	}
	x.Beat(5000, 4960)
	for at := int64(5000); at < 5200; at++ {
		if x.Still(at) {
			t.Fatalf("Still(%d)", at)
		}
	}
	if !x.Still(5200) {
		t.Error("not still at 5200")
	}
}
