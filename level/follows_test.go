package level_test

import (
	"slices"
	"testing"

	"systole/api"
	"systole/level"
)

// between looks whether a number went from one towards another, and beyond neither, nor beyond the bounds.
func between(t *testing.T, now, from, top int64) {
	t.Helper()
	a, b := counts(from), counts(top)
	if now < min(a, b) || now > max(a, b) || now < 0 || now > bound {
		t.Fatalf("from %d towards %d: %d", from, top, now)
	}
	// What is below goes down; what is above by 8 goes up, by a 4th as well as by an 8th; what is the same stays.
	if a > b && now >= a || b-a >= 8 && now <= a {
		t.Fatalf("from %d towards %d: %d", from, top, now)
	}
}

// P17.3: what goes towards a top is never beyond both, nor beyond 0 and BoundWindow: at all edges, and at random.
func TestBetween(t *testing.T) {
	look := func(from, top int64) {
		t.Helper()
		between(t, level.Signal(of(from, 50), top).Signal, from, top)
		between(t, level.Noise(of(50, from), top).Noise, from, top)
		between(t, level.Again(of(from, 50), top).Signal, from, top)
	}
	for _, from := range edges() {
		for _, top := range edges() {
			look(from, top)
		}
	}
	var x noise
	for kind := range kinds {
		for range 20000 {
			l := x.level(kind)
			look(l.Signal, x.top(kind, l))
			look(l.Noise, x.top(kind, l))
		}
	}
}

// P17.3: of many tops: not beyond the least and the greatest of these and where it came from.
func TestBetweenMany(t *testing.T) {
	var x noise
	for kind := range kinds {
		for range 3000 {
			l := x.level(kind)
			tops := x.tops(kind, 1+x.upTo(30), l)
			low, high := counts(slices.Min(tops)), counts(slices.Max(tops))
			signal, other := level.Signal(l, tops...).Signal, level.Noise(l, tops...).Noise
			if from := counts(l.Signal); signal < min(from, low) || signal > max(from, high) {
				t.Fatalf("Signal of %+v with %v: %d", l, tops, signal)
			}
			if from := counts(l.Noise); other < min(from, low) || other > max(from, high) {
				t.Fatalf("Noise of %+v with %v: %d", l, tops, other)
			}
		}
	}
}

// kept looks whether a top again and again brought an estimate to it, or to less than 8 below it, if it came from below.
func kept(t *testing.T, now, from, top int64) {
	t.Helper()
	to := counts(top)
	if counts(from) >= to && now != to || now > to || now <= to-8 {
		t.Fatalf("from %d, by %d again and again: %d", from, top, now)
	}
}

// P17.4: a top some 250 times brings the Signal to it, from above, and to less than 8 below it, from below; likewise the Noise; from 0, from BoundWindow and from between, and from beyond.
func TestKept(t *testing.T) {
	const many = 250
	for _, from := range append([]int64{0, bound, 1, 500, 12345, 1 << 24, bound - 1, bound - 8, bound - 7}, edges()...) {
		for _, top := range edges() {
			tops := times(top, many)
			l := level.Signal(of(from, 40), tops...)
			kept(t, l.Signal, from, top)
			same(t, level.Signal(l, top), l)
			l = level.Noise(of(40, from), tops...)
			kept(t, l.Noise, from, top)
			same(t, level.Noise(l, top), l)
		}
	}
	same(t, level.Signal(of(0, 40), times(bound, many)...), of(bound-7, 40))
	same(t, level.Signal(of(0, 40), times(7, many)...), of(0, 40))
	same(t, level.Signal(of(0, 40), times(1000, many)...), of(993, 40))
	same(t, level.Signal(of(bound, 40), times(1000, many)...), of(1000, 40))
	same(t, level.Signal(of(bound, 40), times(0, many)...), of(0, 40))
	same(t, level.Noise(of(40, 0), times(1000, many)...), of(40, 993))
	same(t, level.Noise(of(40, bound), times(1000, many)...), of(40, 1000))
	same(t, level.Signal(of(997, 40), times(1000, many)...), of(997, 40))
	same(t, level.Signal(of(1001, 40), 1000), of(1000, 40))
}

// P17.4: call by call it is the same, and never goes away from the top on its way.
func TestKeptCallByCall(t *testing.T) {
	var x noise
	for range 300 {
		from, top := int64(x.upTo(bound+1)), int64(x.upTo(bound+1))
		signal, other := of(from, 40), of(40, from)
		for range 250 {
			ahead := signal.Signal
			signal, other = level.Signal(signal, top), level.Noise(other, top)
			between(t, signal.Signal, ahead, top)
			between(t, other.Noise, ahead, top)
		}
		kept(t, signal.Signal, from, top)
		kept(t, other.Noise, from, top)
	}
}

// allAbove looks whether each top is above Upper, and above Lower.
func allAbove(t *testing.T, l api.Level, tops []int64) {
	t.Helper()
	for _, top := range tops {
		if level.Upper(l) >= top || level.Lower(l) >= top {
			t.Fatalf("%d of %v: Upper of %+v is %d", top, tops, l, level.Upper(l))
		}
	}
}

// P17.5: of tops of which none is below half of another one, all above Least, and no noise: each is above Upper behind First of them, and behind each one that is a beat, in each order.
func TestAbove(t *testing.T) {
	for _, tops := range [][]int64{
		{257}, {257, 257}, {257, 514}, {258, 515, 516}, {257, 300, 400, 514}, {800, 1600}, {1000, 1500, 2000}, {1023, 2046, 1024}, {1024, 2047, 2048}, {513, 1026, 700, 1025},
		{bound / 2, bound}, {bound / 2, bound, bound - 1}, {bound}, {bound, bound + 1}, {bound, 2 * bound}, {most, most - 1, most / 2}, {20000001, 40000002, 30000000, 20000002},
	} {
		orders(tops, func(first []int64) {
			l := level.First(first...)
			allAbove(t, l, tops)
			orders(tops, func(then []int64) {
				l := l
				for range 3 {
					for _, top := range then {
						l = level.Signal(l, top)
						allAbove(t, l, tops)
					}
				}
				for _, top := range then {
					l = level.Again(l, top)
					allAbove(t, l, tops)
				}
			})
		})
	}
}

// P17.5: likewise of many such tops at random, small and great, learnt from some of them alone, too.
func TestAboveAtRandom(t *testing.T) {
	var x noise
	for _, most := range []int{514, 600, 2000, 70000, bound} {
		for range 300 {
			high := 514 + x.upTo(most-513)
			low := max(257, (high+1)/2)
			var tops []int64
			for range 1 + x.upTo(30) {
				tops = append(tops, int64(low+x.upTo(high-low+1)))
			}
			l := level.First(tops[:1+x.upTo(len(tops))]...)
			allAbove(t, l, tops)
			for _, top := range tops {
				l = level.Signal(l, top)
				allAbove(t, l, tops)
			}
		}
	}
}

// P17.5: what is at Least, or at a 4th of the Signal, is not above Upper: the words hold no more than they say.
func TestNotAbove(t *testing.T) {
	for _, top := range []int64{0, 1, 255, 256} {
		if level.Upper(level.First(top)) < top {
			t.Errorf("%d is above Upper", top)
		}
	}
	if level.Upper(level.First(500, 2000)) != 500 {
		t.Error("Upper of 2000 is not 500")
	}
}

// Long rows of calls of all kinds, each behind the answer of the one ahead, against a reckoning by the chapter's words.
func TestRows(t *testing.T) {
	var x noise
	for kind := range kinds {
		got := x.level(kind)
		want := got
		for i := range 30000 {
			tops := x.tops(kind, x.upTo(5), want)
			asked(t, got, tops...)
			top := x.top(kind, want)
			switch x.upTo(7) {
			case 0, 1, 2:
				got, want = level.Signal(got, tops...), signalOf(want, tops)
			case 3, 4:
				got, want = level.Noise(got, tops...), noiseOf(want, tops)
			case 5:
				got, want = level.Again(got, top), againOf(want, top)
			}
			if got != want {
				t.Fatalf("call %d: %+v; want %+v", i, got, want)
			}
			if x.upTo(500) == 0 {
				got, want = level.First(tops...), firstOf(tops)
			}
			if x.upTo(100) == 0 {
				got = x.level(kind)
				want = got
			}
		}
	}
}

// Levels and tops of each kind, small and great, without any call ahead, against a reckoning by the chapter's words.
func TestManyLevels(t *testing.T) {
	var x noise
	for kind := range kinds {
		for other := range kinds {
			for range 1000 {
				l := x.level(kind)
				asked(t, l, x.tops(other, x.upTo(6), l)...)
			}
		}
	}
}

// R4: what is handed in is as it was, a list that is handed on as tops, too, and nothing behind its length is read or written.
func TestArgumentsStay(t *testing.T) {
	l := []int64{-5, 1000, most, 7, least, 60000000, 61000000}
	was := slices.Clone(l)
	lev := of(-3, most)
	for range 2 {
		for i := range len(l) + 1 {
			tops := l[:i]
			same(t, level.First(tops...), firstOf(was[:i]))
			same(t, level.Signal(lev, tops...), signalOf(lev, was[:i]))
			same(t, level.Noise(lev, tops...), noiseOf(lev, was[:i]))
			for _, top := range tops {
				same(t, level.Again(lev, top), againOf(lev, top))
			}
			if !slices.Equal(l, was) {
				t.Fatalf("the tops are %v", l)
			}
		}
		level.Upper(lev)
		level.Lower(lev)
		level.May(lev)
		same(t, lev, of(-3, most))
	}
	same(t, level.First(l[:2]...), of(1000, 0))
	same(t, level.Signal(of(1000, 0), l[3:4]...), of(875, 0))
}

// R5: nothing is kept from call to call.
func TestNothingIsKept(t *testing.T) {
	for range 3 {
		same(t, level.First(5, 1000, 7), of(1000, 0))
		same(t, level.First(3), of(3, 0))
		same(t, level.Signal(of(1000, 30), 7), of(875, 30))
		same(t, level.Noise(of(875, 0), 7, 100), of(875, 12))
		same(t, level.Again(of(875, 12), 1275), of(975, 12))
		parts(t, of(975, 12), 256, 128)
		parts(t, of(4012, 12), 1012, 506)
	}
}
