package tally_test

import (
	"testing"

	"systole/api"
	"systole/tally"
)

// field is a field of limits, and from where to where it may be, while all others are the usual ones.
type field struct {
	name     string
	set      func(l *api.Limits, n int64)
	low, top int64
}

// fields are all fields but Mains, with their ends written out.
func fields() []field {
	return []field{
		{"Asys", func(l *api.Limits, n int64) { l.Asys = n }, 200, 6000},
		{"Tach", func(l *api.Limits, n int64) { l.Tach = n }, 40, 239},
		{"TachN", func(l *api.Limits, n int64) { l.TachN = n }, 1, 20},
		{"Brad", func(l *api.Limits, n int64) { l.Brad = n }, 101, 2000},
		{"BradN", func(l *api.Limits, n int64) { l.BradN = n }, 1, 20},
		{"Fib", func(l *api.Limits, n int64) { l.Fib = n }, 1, 142847},
		{"FibN", func(l *api.Limits, n int64) { l.FibN = n }, 1, 200},
		{"Escape", func(l *api.Limits, n int64) { l.Escape = n }, 1, 1048576},
	}
}

// may looks that limits may be, or may not: by Check, and by New.
func may(t *testing.T, l api.Limits, want bool) {
	t.Helper()
	e := api.ErrLimit
	if want {
		e = api.OK
	}
	for range 2 {
		if got := tally.Check(l); got != e {
			t.Fatalf("Check(%+v): %v; want %v", l, got, e)
		}
		x, got := tally.New(l)
		if got != e || (x != nil) != want {
			t.Fatalf("New(%+v): %v, %v; want %v", l, x, got, e)
		}
		if want {
			isNew(t, x)
		}
	}
}

// P20.1: each field by itself: at its ends, just within and just beyond them, at 0, below 0, and at the ends of its range and of others.
func TestCheckEachField(t *testing.T) {
	for _, f := range fields() {
		l := append(edges(), -f.low, -f.top, f.top/2, 1<<32+f.low, 1<<32+f.top, -1<<32+f.low, -1<<32+f.top, least+f.low, least+f.top, most-f.top)
		for n := int64(-3); n <= 3; n++ {
			l = append(l, f.low+n, f.top+n)
		}
		for _, n := range l {
			limits := usual()
			f.set(&limits, n)
			may(t, limits, f.low <= n && n <= f.top)
		}
	}
}

// P20.1: numbers from below 0 up to beyond the upper end of each field: each one, where these are few, else many of them.
func TestCheckEachNumber(t *testing.T) {
	for _, f := range fields() {
		step := 1 + f.top/1000
		for n := int64(-30); n <= f.top+30; n += step {
			limits := usual()
			f.set(&limits, n)
			may(t, limits, f.low <= n && n <= f.top)
		}
	}
}

// P20.1: Mains is 0, 50 or 60, and nothing else.
func TestCheckMains(t *testing.T) {
	l := edges()
	for n := int64(-200); n <= 200; n++ {
		l = append(l, n, 1<<32+n, -1<<32+n, 1<<16+n, 1<<8+n)
	}
	for _, n := range l {
		limits := usual()
		limits.Mains = int(n)
		may(t, limits, n == 0 || n == 50 || n == 60)
	}
}

// P20.1: Tach is at most 400 for itself, and below Brad; Brad is above Tach, and at most 2000: each Tach with each Brad around it.
func TestCheckTachAndBrad(t *testing.T) {
	for tach := int64(35); tach <= 405; tach++ {
		for _, brad := range []int64{least, -1, 0, 1, 39, 40, 41, tach - 2, tach - 1, tach, tach + 1, tach + 2, 399, 400, 401, 1999, 2000, 2001, 1<<32 + tach + 1, most} {
			limits := usual()
			limits.Tach, limits.Brad = tach, brad
			may(t, limits, tach >= 40 && tach <= 400 && brad > tach && brad <= 2000)
		}
	}
	// Neither end holds for the other one.
	for _, c := range [][2]int64{{most, most}, {most, least}, {most - 1, most}, {least, least + 1}, {least, 240}, {100, most}, {1999, 2000}, {2000, 2001}, {401, 402}, {39, 40}, {0, 1}, {-1, 0}, {240, 100}} {
		limits := usual()
		limits.Tach, limits.Brad = c[0], c[1]
		may(t, limits, false)
	}
}

// P20.1: all fields at their lower ends, and all at their upper ones; and the limits of nothing.
func TestCheckEnds(t *testing.T) {
	may(t, api.Limits{Mains: 0, Asys: 200, Tach: 40, TachN: 1, Brad: 41, BradN: 1, Fib: 1, FibN: 1, Escape: 1}, true)
	may(t, api.Limits{Mains: 60, Asys: 6000, Tach: 400, TachN: 20, Brad: 2000, BradN: 20, Fib: 142847, FibN: 200, Escape: 1048576}, true)
	may(t, api.Limits{Mains: 50, Asys: 6000, Tach: 400, TachN: 1, Brad: 401, BradN: 20, Fib: 142847, FibN: 1, Escape: 1}, true)
	may(t, api.Limits{}, false)
	may(t, api.Limits{Mains: 50}, false)
}

// P20.1: each field in turn alone of limits of nothing, or missing from ones that may be: none of them may be.
func TestCheckMissing(t *testing.T) {
	for _, f := range fields() {
		var alone api.Limits
		f.set(&alone, f.top)
		may(t, alone, false)
		missing := usual()
		f.set(&missing, 0)
		may(t, missing, false)
	}
}

// P20.1: several fields that may not be at once, below what they may be, or above: each choice of them. Of none of them they may be.
func TestCheckSeveral(t *testing.T) {
	all := append(fields(), field{"Mains", func(l *api.Limits, n int64) { l.Mains = int(n) }, 50, 60})
	for wrong := range 1 << len(all) {
		for sides := range 4 {
			limits := usual()
			for i, f := range all {
				n := f.low - 1
				if (i+sides)%4 < 2 {
					n = f.top + 1
				}
				if wrong>>i&1 == 1 {
					f.set(&limits, n)
				}
			}
			may(t, limits, wrong == 0)
		}
	}
}

// P20.1: limits of all kinds by the chapter's words; as many may be as may not.
func TestCheckRandom(t *testing.T) {
	var x noise
	can := 0
	for range 20000 {
		limits := x.limits()
		may(t, limits, true)
		f := fields()[x.upTo(8)]
		f.set(&limits, x.one(f.low, f.top, x.whole(), x.from(f.low, f.top), f.low-1, f.top+1, x.from(0, 3000)))
		if x.upTo(20) == 0 {
			limits.Mains = int(x.one(0, 50, 60, 55, x.whole()))
		}
		want := (limits.Mains == 0 || limits.Mains == 50 || limits.Mains == 60) &&
			!(limits.Asys < 200 || limits.Asys > 6000) &&
			!(limits.Tach < 40 || limits.Tach > 400) &&
			!(limits.Brad <= limits.Tach || limits.Brad > 2000) &&
			!(limits.TachN < 1 || limits.TachN > 20) &&
			!(limits.BradN < 1 || limits.BradN > 20) &&
			!(limits.Fib < 1 || limits.Fib > 142847) &&
			!(limits.FibN < 1 || limits.FibN > 200) &&
			!(limits.Escape < 1 || limits.Escape > 1048576)
		may(t, limits, want)
		if want {
			can++
		}
	}
	if can < 5000 || can > 15000 {
		t.Errorf("%d of 20000 may be", can)
	}
}

// P20.1: Usual, field by field; it may be, and is its own each time.
func TestUsual(t *testing.T) {
	for range 2 {
		l := tally.Usual()
		for _, c := range []struct {
			name      string
			got, want int64
		}{
			{"Mains", int64(l.Mains), 50}, {"Asys", l.Asys, 800}, {"Tach", l.Tach, 100}, {"TachN", l.TachN, 5}, {"Brad", l.Brad, 240}, {"BradN", l.BradN, 3}, {"Fib", l.Fib, 200}, {"FibN", l.FibN, 12}, {"Escape", l.Escape, 2000},
		} {
			if c.got != c.want {
				t.Errorf("%s: %d; want %d", c.name, c.got, c.want)
			}
		}
		if l != usual() {
			t.Errorf("Usual: %+v", l)
		}
		may(t, l, true)
		// Whoever gets them may change them.
		l.Asys, l.TachN = 1, 0
		may(t, l, false)
	}
	if api.ErrLimit != 200 || api.BoundHigh != 142847 || api.MaxAt != maxAt {
		t.Errorf("the error is %d, the limits are %d and %d", api.ErrLimit, api.BoundHigh, api.MaxAt)
	}
}
