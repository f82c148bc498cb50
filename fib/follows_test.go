package fib_test

import (
	"slices"
	"testing"
)

// P21.2: of values that alternate, 398 to 1000 of them, beginning with either: at most half of FibWin, and just as many as the chapter's words say.
func TestAlternating(t *testing.T) {
	for _, v := range [][2]int64{{199, 200}, {199, 201}, {-700, 1100}, {least, most}} {
		for _, l := range [][]int64{turns(v[0], v[1], 1000), turns(v[1], v[0], 1000)} {
			one := of(t, 200)
			for many := 1; many <= 1000; many++ {
				want := countOf(200, l[:many])
				if want > 200 {
					t.Fatalf("of %d values that alternate: %d", many, want)
				}
				comes(t, one, want, l[many-1])
				if many >= 398 {
					comes(t, of(t, 200), want, l[:many]...)
				}
			}
		}
	}
}

// P21.2: likewise, written out: half of FibWin is met with the 400th value, if the first one is below the height, and with the 401st, if it is not; it stays so.
func TestHalfIsMet(t *testing.T) {
	for many, want := range map[int]int64{397: 198, 398: 199, 399: 199, 400: 200, 401: 200, 402: 200, 403: 200, 500: 200, 999: 200, 1000: 200} {
		comes(t, of(t, 10), want, turns(9, 10, many)...)
	}
	for many, want := range map[int]int64{397: 198, 398: 198, 399: 199, 400: 199, 401: 200, 402: 200, 403: 200, 500: 200, 999: 200, 1000: 200} {
		comes(t, of(t, 10), want, turns(10, 9, many)...)
	}
}

// P21.2: from as many as there may be it falls by one with each crossing that gets too far back, and comes to 0.
func TestFalls(t *testing.T) {
	for _, v := range []int64{9, 10} {
		c := of(t, 10)
		comes(t, c, 200, turns(10, 9, 401)...)
		is(t, c, 10, 200)
		// The last value is at the height: the crossings are the last one, the third one, and so on.
		for many := 1; many <= 500; many++ {
			comes(t, c, max(0, 200-int64(many)/2), v)
		}
	}
}

// P21.2: it is from 0 to half of FibWin, of values of all kinds.
func TestBounds(t *testing.T) {
	var x noise
	for kind := range kinds {
		height := x.height()
		c := of(t, height)
		for _, v := range x.row(kind, height, 30000) {
			if got := c.Push(v); got < 0 || got > 200 {
				t.Fatalf("the count is %d", got)
			}
		}
	}
}

// P21.3: behind 401 values what came ahead plays no part: whatever it was, however much, and from there on.
func TestForgotten(t *testing.T) {
	var x noise
	for kind := range kinds {
		for range 30 {
			height := x.height()
			one, other := of(t, height), of(t, height)
			one.Push(x.row(x.upTo(kinds), height, x.upTo(1000))...)
			other.Push(x.row(x.upTo(kinds), height, x.upTo(1000))...)
			l := x.row(kind, height, 900)
			one.Push(l[:400]...)
			other.Push(l[:400]...)
			for i := 401; i <= 900; i++ {
				if got, want := one.Push(l[i-1]), other.Push(l[i-1]); got != want {
					t.Fatalf("behind %d values that are alike: %d and %d", i, got, want)
				}
				if got, want := one.Count(), countOf(height, l[:i]); got != want {
					t.Fatalf("behind %d values: %d; want %d", i, got, want)
				}
			}
		}
	}
}

// P21.3: behind 400 values alone it may play one: the first of them is a crossing, or is not, by what came ahead of it.
func TestNotForgottenYet(t *testing.T) {
	for _, v := range []int64{5, 6, most} {
		for _, next := range []int64{4, 5} {
			below, above, none := of(t, 5), of(t, 5), of(t, 5)
			below.Push(0, 4)
			above.Push(0, 4, 5)
			l := append([]int64{v}, times(next, 399)...)
			comes(t, below, 1, l...)
			comes(t, above, 0, l...)
			comes(t, none, 0, l...)
			for range 3 {
				comes(t, below, 0, next)
				comes(t, above, 0, next)
				comes(t, none, 0, next)
			}
		}
	}
	// And whole crossings ahead count till then, one by one.
	with, without := of(t, 5), of(t, 5)
	with.Push(4, 5, 4, 5, 4)
	without.Push(5, 5, 5, 5, 5)
	comes(t, with, 2, times(4, 395)...)
	comes(t, without, 0, times(4, 395)...)
	comes(t, with, 2, 4)
	comes(t, with, 1, 4)
	comes(t, with, 1, 4)
	comes(t, with, 0, 4)
}

// P21.4: of values that are all below the height, all at it, or all above it, it is 0 behind each one of them.
func TestCalm(t *testing.T) {
	var x noise
	for _, height := range heights() {
		for _, far := range []func() int64{
			func() int64 { return height - 1 },
			func() int64 { return height },
			func() int64 { return height + 1 },
			func() int64 { return least },
			func() int64 { return most },
			func() int64 { return 0 },
			func() int64 { return height - 1 - int64(x.upTo(3)) },
			func() int64 { return height + int64(x.upTo(3)) },
			func() int64 { return height - 1 - int64(x.upTo(1<<40)) },
			func() int64 { return height + int64(x.upTo(1<<40)) },
		} {
			c := of(t, height)
			var l []int64
			for range 900 {
				v := far()
				l = append(l, v)
				comes(t, c, 0, v)
			}
			is(t, c, height, 0)
			comes(t, of(t, height), 0, l...)
		}
	}
}

// P21.4: down alone is no crossing: values that are not below the height, and then ones that are.
func TestDownAlone(t *testing.T) {
	for _, many := range []int{1, 2, 399, 400, 401, 900} {
		c := of(t, 10)
		comes(t, c, 0, times(10, many)...)
		for range 900 {
			comes(t, c, 0, 9)
		}
	}
}

// Long rows of random values, in calls of random lengths, with resets between, by many heights, against a reckoning by the chapter's words.
func TestRows(t *testing.T) {
	var x noise
	var full, none int
	for range 60 {
		h := heldOf(t, x.height())
		kind := x.upTo(kinds)
		for range 400 {
			if x.upTo(30) == 0 {
				kind = x.upTo(kinds)
			}
			many := []int{0, 1, 1, 2, 3, x.upTo(10), x.upTo(50)}[x.upTo(7)]
			if x.upTo(80) == 0 {
				many = x.upTo(1000)
			}
			h.push(t, x.row(kind, h.height, many)...)
			if h.Count() > 80 {
				full++
			}
			if h.Count() == 0 {
				none++
			}
			if x.upTo(100) == 0 {
				h.reset(t)
			}
			// No more than the last 401 play a part, so that no more has to be gone through.
			h.came = slices.Clone(h.came[max(0, len(h.came)-401):])
		}
	}
	if full < 2000 || none < 500 {
		t.Errorf("%d and %d times", full, none)
	}
}

// Long rows, over all that came, value by value.
func TestRowsValueByValue(t *testing.T) {
	var x noise
	for kind := range kinds {
		height := x.height()
		c := of(t, height)
		var came []int64
		for range 5000 {
			v := x.value(kind, height)
			came = append(came, v)
			comes(t, c, countOf(height, came), v)
		}
	}
}

// Waves that go up and down slowly, and fast, as a heart's and a fluttering one do.
func TestWaves(t *testing.T) {
	for _, length := range []int64{2, 3, 4, 7, 20, 33, 100, 399, 400, 401, 402, 800} {
		h := heldOf(t, 200)
		for n := range int64(2000) {
			v := 201 - n%length
			if n%length >= length/2 {
				v = 198 + n%length - length
			}
			h.push(t, v)
		}
		// Each wave but the first one begins with a crossing.
		is(t, h.Counter, 200, 1999/length-1599/length)
	}
}

// After very many values without Reset it still counts the last 400 alone.
func TestVeryMany(t *testing.T) {
	var x noise
	c := of(t, 32768)
	var came []int64
	for i := range 600000 {
		v := x.value(i>>12%kinds, 32768)
		if len(came) == 2000 {
			came = slices.Clone(came[1600:])
		}
		came = append(came, v)
		if got := c.Push(v); i%97 == 0 && i > 401 && got != countOf(32768, came[max(0, len(came)-401):]) {
			t.Fatalf("behind %d values: %d", i+1, got)
		}
	}
	is(t, c, 32768, countOf(32768, came))
}

// To be asked does nothing: with it and without, all answers are the same.
func TestAskingDoesNothing(t *testing.T) {
	var x noise
	one, other := of(t, 5), of(t, 5)
	for range 5000 {
		l := x.row(x.upTo(kinds), 5, x.upTo(4))
		got, want := one.Push(l...), other.Push(l...)
		if got != want {
			t.Fatalf("%d; without asking %d", got, want)
		}
		for range x.upTo(4) {
			if one.Count() != got || one.Height() != 5 || one.Push() != got {
				t.Fatalf("asked again: %d, %d; want %d", one.Count(), one.Height(), got)
			}
		}
		if x.upTo(500) == 0 {
			one.Reset()
			other.Reset()
		}
	}
}

// R4: what is handed in is as it was, a list that is handed on as values, too, and nothing behind its length is read or written.
func TestArgumentsStay(t *testing.T) {
	l := []int64{4, 5, most, 4, least, 5, 4, 5, 0, 7}
	was := slices.Clone(l)
	for from := range len(l) + 1 {
		for to := from; to <= len(l); to++ {
			h := heldOf(t, 5)
			h.push(t, l[from:to]...)
			h.push(t, l[from:to]...)
			if want := countOf(5, slices.Concat(was[from:to], was[from:to])); h.Count() != want {
				t.Fatalf("of %v twice: %d; want %d", was[from:to], h.Count(), want)
			}
			h.reset(t)
			if !slices.Equal(l, was) {
				t.Fatalf("the values are %v", l)
			}
		}
	}
	long := turns(4, 5, 1000)
	of(t, 5).Push(long...)
	if !slices.Equal(long, turns(4, 5, 1000)) {
		t.Error("a long list is another one")
	}
}

// R4: nothing that is handed in is kept: whoever handed it in may change it.
func TestArgumentsAreNotKept(t *testing.T) {
	l := []int64{4, 5, 4, 5, 4}
	c := of(t, 5)
	comes(t, c, 2, l...)
	for i := range l {
		l[i] = 5000
	}
	is(t, c, 5, 2)
	comes(t, c, 2, l[:0]...)
	// The one ahead is still the 4.
	comes(t, c, 3, 5)
	if want := times(5000, 5); !slices.Equal(l, want) {
		t.Errorf("the list is %v", l)
	}
}
