package rhythm_test

import (
	"math"
	"testing"

	"systole/api"
	"systole/rhythm"
)

// field is a field of limits, and from where to where it may be, while all others are the usual ones.
type field struct {
	name     string
	set      func(l *api.Limits, n int64)
	low, top int64
}

// fields are all fields but Mains, with their ends written out.
func fields() []field {
	return []field{
		{"Asys", func(l *api.Limits, n int64) { l.Asys = n }, 200, 6000},
		{"Tach", func(l *api.Limits, n int64) { l.Tach = n }, 40, 239},
		{"TachN", func(l *api.Limits, n int64) { l.TachN = n }, 1, 20},
		{"Brad", func(l *api.Limits, n int64) { l.Brad = n }, 101, 2000},
		{"BradN", func(l *api.Limits, n int64) { l.BradN = n }, 1, 20},
		{"Fib", func(l *api.Limits, n int64) { l.Fib = n }, 1, 142847},
		{"FibN", func(l *api.Limits, n int64) { l.FibN = n }, 1, 200},
		{"Escape", func(l *api.Limits, n int64) { l.Escape = n }, 1, 1048576},
	}
}

// may looks that limits may be, or may not: by New, and by All of marks that would tell something.
func may(t *testing.T, l api.Limits, want bool) {
	t.Helper()
	r, e := rhythm.New(l)
	if want {
		if e != api.OK || r == nil {
			t.Fatalf("New(%+v): %v, %v", l, r, e)
		}
		is(t, r)
		said := rhythm.All(l, off(7), on(8))
		if len(said) != 2 {
			t.Fatalf("All of limits %+v: %v", l, said)
		}
		return
	}
	if e != api.ErrLimit || r != nil {
		t.Fatalf("New(%+v): %v, %v", l, r, e)
	}
	for _, m := range [][]api.Mark{nil, {}, {off(7)}, {off(7), on(8)}, fastOnes(0, 30)} {
		if said := rhythm.All(l, m...); len(said) != 0 {
			t.Fatalf("All of limits %+v: %v", l, said)
		}
	}
}

// The chapter's example: a beat is missing from the 200th sample on, and that is told once.
func TestExample(t *testing.T) {
	r := of(t, asys(200))
	for n := range int64(1000) {
		var want outcome
		if n == 200 {
			want = outcome{{Kind: api.AlAsys, At: 200, On: true}}
		}
		says(t, r, want, api.Mark{Kind: api.MkSample, At: n})
		if got := r.On(api.AlAsys); got != (n >= 200) {
			t.Fatalf("On behind sample %d: %v", n, got)
		}
	}
	is(t, r, 2)
}

// P22.1: the kinds' names, written out.
func TestKinds(t *testing.T) {
	if marks := [...]int{api.MkGap, api.MkOff, api.MkOn, api.MkSample, api.MkDark, api.MkBeat}; marks != [...]int{1, 2, 3, 4, 5, 6} {
		t.Errorf("kinds of marks: %v", marks)
	}
	if kinds := [...]int{api.AlLead, api.AlAsys, api.AlFib, api.AlTach, api.AlBrad}; kinds != [...]int{1, 2, 3, 4, 5} {
		t.Errorf("kinds of conditions: %v", kinds)
	}
	if api.ErrLimit != 200 {
		t.Errorf("ErrLimit: %d", api.ErrLimit)
	}
}

// P22.1: ErrLimit, and nil, of limits of which one field is beyond its ends; each one at its ends, and just within, may be.
func TestNewEachField(t *testing.T) {
	for _, f := range fields() {
		l := append(edges(), -f.low, -f.top, 1<<32+f.low, -1<<32+f.top, least+f.low)
		for n := int64(-2); n <= 2; n++ {
			l = append(l, f.low+n, f.top+n)
		}
		for _, n := range l {
			limits := usual()
			f.set(&limits, n)
			may(t, limits, f.low <= n && n <= f.top)
		}
	}
	for _, n := range append(edges(), 49, 50, 51, 59, 60, 61, 1<<32+50) {
		limits := usual()
		limits.Mains = int(n)
		may(t, limits, n == 0 || n == 50 || n == 60)
	}
}

// P22.1: all fields at one end at once, and the limits of nothing.
func TestNewEnds(t *testing.T) {
	may(t, usual(), true)
	may(t, quick(), true)
	may(t, api.Limits{Mains: 0, Asys: 200, Tach: 40, TachN: 1, Brad: 41, BradN: 1, Fib: 1, FibN: 1, Escape: 1}, true)
	may(t, api.Limits{Mains: 60, Asys: 6000, Tach: 400, TachN: 20, Brad: 2000, BradN: 20, Fib: 142847, FibN: 200, Escape: 1048576}, true)
	may(t, api.Limits{}, false)
	may(t, api.Limits{Mains: 50}, false)
	limits := usual()
	limits.Tach, limits.Brad = 240, 240
	may(t, limits, false)
	limits.Brad = 241
	may(t, limits, true)
}

// P22.1, P22.2: a new rhythm: the lead is on, and no condition is there; whichever call is the first one.
func TestNewRhythm(t *testing.T) {
	var x noise
	for range 50 {
		l := x.limits()
		is(t, of(t, l))
		for kind := -1; kind <= 7; kind++ {
			if of(t, l).On(kind) {
				t.Fatalf("On(%d) of a new rhythm", kind)
			}
		}
		if of(t, l).Off() {
			t.Fatal("Off of a new rhythm")
		}
		says(t, of(t, l), nil)
		says(t, of(t, l), nil, []api.Mark{}...)
	}
}

// P22.1, P22.2: each kind of mark as the first one, at each sample: an MkOff tells of the lead, and no other one tells anything.
func TestFirstMark(t *testing.T) {
	for _, l := range []api.Limits{usual(), quick(), quickest()} {
		for _, n := range edges() {
			says(t, of(t, l), nil, gap(n))
			says(t, of(t, l), begins(1, n), off(n))
			says(t, of(t, l), nil, on(n))
			says(t, of(t, l), nil, sample(n, 0))
			says(t, of(t, l), nil, sample(n, n))
			says(t, of(t, l), nil, dark(n))
			says(t, of(t, l), nil, beat(n, 0))
			says(t, of(t, l), nil, beat(n, 200))
			for _, m := range []api.Mark{gap(n), off(n), on(n), sample(n, n), dark(n), beat(n, n)} {
				heldOf(t, l).push(t, m)
			}
		}
	}
}

// P22.1: a beat that is the first mark counts as any other one: with a distance below 1 it has none, with others it is fast, or slow, or neither.
func TestFirstBeat(t *testing.T) {
	for _, n := range []int64{least, -5, 0, 7, maxAt, most} {
		for _, rr := range []int64{0, -1, -90, -300, least, least + 90, 91, 92, 200, 298, 299} {
			r := of(t, quickest())
			says(t, r, nil, beat(n, rr))
			is(t, r)
		}
		for _, rr := range []int64{1, 2, 40, 89, 90} {
			r := of(t, quickest())
			says(t, r, begins(4, n), beat(n, rr))
			is(t, r, 4)
			says(t, of(t, quick()), nil, beat(n, rr))
		}
		for _, rr := range []int64{300, 301, 2000, 1 << 32, 1<<32 + 90, most - 1, most} {
			r := of(t, quickest())
			says(t, r, begins(5, n), beat(n, rr))
			is(t, r, 5)
			says(t, of(t, quick()), nil, beat(n, rr))
		}
	}
}

// P22.1: marks of kinds that there aren't say nothing and do nothing, whatever stands, and whatever else they have.
func TestOtherKinds(t *testing.T) {
	for _, kinds := range [][]int{nil, {1}, {2}, {3}, {4}, {5}, {2, 3, 4}, {2, 3, 5}} {
		for _, kind := range otherKinds() {
			if kind == 6 {
				continue
			}
			r := stands(t, kinds...)
			for _, n := range edges() {
				says(t, r, nil, api.Mark{Kind: kind, At: n, H: n, Beat: api.Beat{At: n, Seen: n, RR: n, Back: true}})
			}
			is(t, r, kinds...)
		}
	}
	// What comes behind them is as if they had not come: the beginning, and the crossing.
	for _, kind := range otherKinds() {
		r := of(t, quickest())
		says(t, r, begins(3, 1001), api.Mark{Kind: kind, At: 1, H: 100}, sample(1000, 99), api.Mark{Kind: kind, At: 1, H: 200}, sample(1001, 100))
		says(t, r, nil, api.Mark{Kind: kind, At: 5000}, sample(1199, 100))
		says(t, r, begins(2, 1200), api.Mark{Kind: kind, At: 5000, Beat: api.Beat{RR: 90}}, sample(1200, 100))
	}
}

// P22.1: a sample while the lead is on and nothing else came: dark samples do nothing, and nothing is told at them, also where an asystole would begin, or end.
func TestDark(t *testing.T) {
	for _, kinds := range [][]int{nil, {1}, {2}, {3}, {4}, {5}, {2, 3, 4}, {2, 3, 5}} {
		r := stands(t, kinds...)
		for _, n := range edges() {
			says(t, r, nil, api.Mark{Kind: api.MkDark, At: n, H: n, Beat: api.Beat{At: n, Seen: n, RR: n, Back: true}})
		}
		is(t, r, kinds...)
	}
	for _, first := range []api.Mark{gap(50), on(50), sample(50, 0), beat(50, 0)} {
		r := of(t, asys(200))
		says(t, r, nil, first, dark(249), dark(250), dark(251), dark(9000), dark(most))
		is(t, r)
		says(t, r, nil, sample(249, 0))
		says(t, r, begins(2, 250), dark(250), sample(250, 0))
		says(t, r, nil, dark(0), dark(50), dark(249), dark(250), dark(-1))
		is(t, r, 2)
		says(t, r, ends(2, 260), dark(255), beat(260, 210))
	}
	// It is no beginning.
	r := of(t, asys(200))
	says(t, r, nil, dark(0), sample(500, 0), sample(699, 0))
	says(t, r, begins(2, 700), sample(700, 0))
}

// P22.2: On of each kind in each state, and of kinds that there aren't; Off is whether the lead is.
func TestOn(t *testing.T) {
	for _, kinds := range [][]int{nil, {1}, {2}, {3}, {4}, {5}, {2, 3}, {2, 4}, {2, 5}, {3, 4}, {3, 5}, {2, 3, 4}, {2, 3, 5}} {
		r := stands(t, kinds...)
		for _, kind := range append(otherKinds(), 6, 10, 100, 1<<62) {
			if r.On(kind) {
				t.Fatalf("the kinds %v are there; On(%d)", kinds, kind)
			}
		}
		for _, kind := range kinds {
			for _, more := range []int{1 << 3, 1 << 8, 1 << 16, 1 << 32, math.MinInt} {
				if r.On(kind+more) || r.On(-kind) {
					t.Fatalf("the kinds %v are there; On(%d), or On(%d)", kinds, kind+more, -kind)
				}
			}
		}
		is(t, r, kinds...)
	}
}

// R6: each call of a rhythm that no call made, that is nil: nothing, and false, whatever comes.
func TestNil(t *testing.T) {
	var r *rhythm.Rhythm
	for range 2 {
		is(t, r)
		says(t, r, nil)
		says(t, r, nil, []api.Mark{}...)
		for _, m := range []api.Mark{gap(5), off(5), on(6), sample(5, 100), sample(9000, 200), dark(5), beat(5, 90), beat(95, 90), {}, {Kind: 7}, {Kind: math.MinInt}} {
			says(t, r, nil, m)
			is(t, r)
		}
		says(t, r, nil, append(flutter(0, 100, 900), fastOnes(900, 30)...)...)
		for _, kind := range otherKinds() {
			if r.On(kind) {
				t.Fatalf("On(%d)", kind)
			}
		}
		is(t, r)
		if r != nil {
			t.Fatal("it is not nil any more")
		}
	}
}

// P22.1: limits that are changed by whoever handed them in leave the rhythm's as they were.
func TestLimitsStay(t *testing.T) {
	l := quickest()
	r := of(t, l)
	was := l
	l = api.Limits{Mains: 60, Asys: 6000, Tach: 40, TachN: 20, Brad: 2000, BradN: 20, Fib: 9, FibN: 200, Escape: 1}
	says(t, r, begins(4, 10), beat(10, 90))
	says(t, r, and(ends(4, 310), begins(5, 310)), beat(310, 300))
	says(t, r, begins(3, 312), sample(311, 99), sample(312, 100))
	says(t, r, begins(2, 510), sample(509, 100), sample(510, 100))
	if was != quickest() {
		t.Errorf("the limits are %+v", was)
	}
	is(t, of(t, l))
}
