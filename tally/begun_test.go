package tally_test

import (
	"testing"

	"systole/api"
	"systole/tally"
)

// P20.2: a new tally has not begun; it is no tachycardia, no bradycardia, and never still, however great the number is, whatever its limits are.
func TestNew(t *testing.T) {
	var x noise
	isNew(t, of(t, usual()))
	isNew(t, of(t, often(1, 1)))
	isNew(t, of(t, asys(200)))
	for range 100 {
		isNew(t, of(t, x.limits()))
	}
	if of(t, usual()) == of(t, usual()) {
		t.Error("two tallies are the same one")
	}
}

// P20.2: New of limits that may not be: the error, and no tally.
func TestNewOfLimitsThatMayNotBe(t *testing.T) {
	for _, l := range []api.Limits{{}, {Mains: 50, Asys: 800}, asys(199), asys(6001), often(0, 3), often(5, 21), often(-1, -1), asys(least)} {
		x, e := tally.New(l)
		if x != nil || e != api.ErrLimit {
			t.Errorf("New(%+v): %v, %v", l, x, e)
		}
	}
}

// P20.2: Begin ahead of any beat: it has begun, and nothing is counted.
func TestBegin(t *testing.T) {
	x := of(t, often(1, 1))
	x.Begin(500)
	is(t, x, true, false, false)
	stillFrom(t, x, 1300)
	x.Begin(500)
	is(t, x, true, false, false)
	stillFrom(t, x, 1300)
	x.Begin(2000)
	stillFrom(t, x, 2800)
	x.Begin(100)
	is(t, x, true, false, false)
	stillFrom(t, x, 900)
}

// P20.2: Begin behind distances of each kind: none are counted any more, on either side; what comes then counts from anew.
func TestBeginBehindDistances(t *testing.T) {
	for _, c := range []struct {
		ahead []int64
		rr    int64
	}{
		{nil, 90}, {nil, 300},
		{[]int64{90}, 90}, {[]int64{90, 90}, 90}, {[]int64{90, 90, 90}, 90}, {times(90, 50), 90}, {times(90, 50), 300},
		{[]int64{300}, 300}, {[]int64{300, 300}, 300}, {[]int64{300, 300, 300}, 300}, {times(300, 50), 300}, {times(300, 50), 90},
		{[]int64{150}, 90}, {[]int64{90, 150, 90, 90}, 90}, {[]int64{90, 300, 300}, 300}, {none(), 90}, {[]int64{90, 90, 0}, 90}, {[]int64{300, 300, 0}, 300},
	} {
		x := of(t, often(3, 3))
		x.Beat(40, c.ahead...)
		x.Begin(700)
		is(t, x, true, false, false)
		stillFrom(t, x, 1500)
		x.Beat(800, c.rr)
		is(t, x, true, false, false)
		x.Beat(900, c.rr)
		is(t, x, true, false, false)
		stillFrom(t, x, 1700)
		x.Beat(1000, c.rr)
		is(t, x, true, c.rr == 90, c.rr == 300)
		x.Begin(1000)
		is(t, x, true, false, false)
	}
}

// P20.2: Begin behind a beat: the last beat counts no more, be it ahead of where it begins anew, there, or behind that.
func TestBeginBehindABeat(t *testing.T) {
	for _, last := range []int64{0, 100, 999, 1000, 1001, 1500, 50000, maxAt, most, least} {
		x := of(t, usual())
		x.Beat(last)
		x.Begin(1000)
		is(t, x, true, false, false)
		stillFrom(t, x, 1800)
		x.Begin(3000)
		stillFrom(t, x, 3800)
		x.Beat(3100)
		stillFrom(t, x, 3900)
	}
}

// P20.2: a beat of a tally that has not begun: it begins there, with a distance, without one, and behind Reset.
func TestBeatBegins(t *testing.T) {
	for _, at := range []int64{0, 1, 100, 1 << 32, maxAt - 800, maxAt} {
		x := of(t, often(1, 2))
		for range 2 {
			x.Beat(at)
			is(t, x, true, false, false)
			stillFrom(t, x, at+800)
			x.Reset()
			x.Beat(at, 100)
			is(t, x, true, true, false)
			stillFrom(t, x, at+800)
			x.Reset()
			x.Beat(at, 0, 300, 300)
			is(t, x, true, false, true)
			stillFrom(t, x, at+800)
			x.Reset()
		}
	}
}

// P20.2: a beat of a tally that has begun does not let it begin anew: what was counted counts on.
func TestBeatDoesNotBeginAnew(t *testing.T) {
	x := of(t, often(3, 3))
	x.Begin(100)
	for i := range int64(5) {
		x.Beat(200+i, 90)
		is(t, x, true, i >= 2, false)
	}
	for i := range int64(5) {
		x.Beat(300-i, 300)
		is(t, x, true, false, i >= 2)
	}
}

// P20.2: Reset behind each kind of state: as New, with the same limits; twice, and of a new tally.
func TestReset(t *testing.T) {
	states := []func(x *tally.Tally){
		func(x *tally.Tally) {},
		func(x *tally.Tally) { x.Begin(100) },
		func(x *tally.Tally) { x.Begin(most) },
		func(x *tally.Tally) { x.Beat(0) },
		func(x *tally.Tally) { x.Beat(100, 0) },
		func(x *tally.Tally) { x.Beat(100, 90, 90) },
		func(x *tally.Tally) { x.Beat(100, times(90, 30)...) },
		func(x *tally.Tally) { x.Beat(100, 300, 300) },
		func(x *tally.Tally) { x.Beat(100, times(300, 30)...) },
		func(x *tally.Tally) { x.Beat(100, 150) },
		func(x *tally.Tally) { x.Beat(100, 90, 90, 90); x.Begin(5000) },
		func(x *tally.Tally) { x.Beat(100, 90, 90, 90); x.Still(5000) },
	}
	limits := often(3, 3)
	limits.Mains, limits.Asys, limits.Tach, limits.Brad, limits.Fib, limits.FibN, limits.Escape = 60, 500, 120, 200, 7, 8, 9
	for i, state := range states {
		for _, twice := range []bool{false, true} {
			x := of(t, limits)
			state(x)
			x.Reset()
			if twice {
				x.Reset()
			}
			isNew(t, x)
			if x.Limits != limits {
				t.Errorf("state %d: the limits are %+v", i, x.Limits)
			}
			// It goes on as a new one, by its limits.
			x.Beat(40, 120, 120)
			is(t, x, true, false, false)
			stillFrom(t, x, 540)
			x.Beat(50, 120)
			is(t, x, true, true, false)
			x.Reset()
			x.Begin(1000)
			is(t, x, true, false, false)
			stillFrom(t, x, 1500)
			x.Beat(1010, 200, 200)
			is(t, x, true, false, false)
			x.Beat(1020, 200)
			is(t, x, true, false, true)
		}
	}
}

// P20.2: two tallies of unlike limits, side by side, know nothing of each other.
func TestTwo(t *testing.T) {
	var x noise
	one, other := heldOf(t, often(2, 4)), heldOf(t, api.Limits{Mains: 0, Asys: 200, Tach: 150, TachN: 4, Brad: 160, BradN: 2, Fib: 1, FibN: 1, Escape: 1})
	for range 3000 {
		x.deed(t, one)
		other.look(t)
		x.deed(t, other)
		one.look(t)
	}
	// The same distances are unlike to both.
	one, other = heldOf(t, one.words.limits), heldOf(t, other.words.limits)
	for _, h := range []*held{one, other} {
		h.beat(t, 0, 100, 100, 170, 170)
	}
	is(t, one.Tally, true, false, false)
	is(t, other.Tally, true, false, true)
	stillFrom(t, one.Tally, 800)
	stillFrom(t, other.Tally, 200)
}

// P20.3: a tally that no call made: false of all four, and nothing is done.
func TestNil(t *testing.T) {
	var x *tally.Tally
	isNew(t, x)
	for range 2 {
		for _, n := range edges() {
			x.Begin(n)
			is(t, x, false, false, false)
			x.Beat(n)
			x.Beat(n, n)
			x.Beat(n, 90, 90, 90, 90, 90, 90)
			is(t, x, false, false, false)
			x.Beat(n, 300, 300, 300, 300)
			is(t, x, false, false, false)
			if x.Still(n) || x.Still(most) {
				t.Errorf("nil is still at %d", n)
			}
		}
		x.Reset()
		isNew(t, x)
		if x != nil {
			t.Error("it is not nil any more")
		}
	}
}
