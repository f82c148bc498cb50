package alarm_test

import (
	"slices"
	"testing"

	"systole/api"
)

// outs is one out of a kind, of an alarm; none of kind 0.
func outs(kind, alarm int, at int64) outcome {
	if kind == 0 {
		return nil
	}
	return outcome{{Kind: kind, At: at, Alarm: alarm}}
}

// P23.1: each kind that begins, and that ends, in each state: what is said, and what it is then; and once more of the same says nothing, as it is on, or not.
func TestEachState(t *testing.T) {
	for kind := 1; kind <= 5; kind++ {
		for _, w := range ways(kind) {
			t.Run(w.name, func(t *testing.T) {
				a := w.alarm(kind)
				is(t, a, only(kind, w.sign))
				says(t, a, outs(w.begin, kind, 2000), begins(kind, 2000))
				is(t, a, only(kind, w.begun))
				says(t, a, nil, begins(kind, 2001), begins(kind, 2002))
				is(t, a, only(kind, w.begun))

				a = w.alarm(kind)
				says(t, a, outs(w.end, kind, 2000), ends(kind, 2000))
				is(t, a, only(kind, w.ended))
				says(t, a, nil, ends(kind, 2001), ends(kind, 2002))
				is(t, a, only(kind, w.ended))
			})
		}
	}
}

// P23.1: what happens to one kind does nothing to the others, in whichever state these are.
func TestKindsApart(t *testing.T) {
	for kind := 1; kind <= 5; kind++ {
		for other := 1; other <= 5; other++ {
			if other == kind {
				continue
			}
			for _, w := range ways(other) {
				a := w.alarm(other)
				both := []byte(only(other, w.sign))
				both[kind-1] = 's'
				says(t, a, raised(kind, 2000), begins(kind, 2000))
				is(t, a, string(both))
				if kind == 2 || kind == 3 {
					says(t, a, latched(kind, 2001), ends(kind, 2001))
					is(t, a, string(both))
				} else {
					says(t, a, cleared(kind, 2001), ends(kind, 2001))
					is(t, a, only(other, w.sign))
				}
				// The other one is on, or not, as it was.
				says(t, a, outs(w.end, other, 2002), ends(other, 2002))
			}
		}
	}
}

// P23.1: what was cleared, and begins again, is raised anew, since then: it isn't acknowledged, nor has it escalated; and it escalates behind the new sample.
func TestRaisedAnew(t *testing.T) {
	for _, kind := range []int{1, 4, 5} {
		for _, w := range ways(kind) {
			if w.sign != '.' {
				continue
			}
			a := w.alarm(kind)
			a.Tick(1900)
			says(t, a, raised(kind, 2000), begins(kind, 2000))
			is(t, a, only(kind, 's'))
			ticks(t, a, loud(2099), 2099)
			is(t, a, only(kind, 's'))
			ticks(t, a, escaped(kind, 2100), 2100)
			is(t, a, only(kind, 'S'))
		}
	}
}

// P23.1: what is latched, or on already, and begins, stands since it was raised: behind a Cond with a later sample it escalates as if that had not come.
func TestSinceStays(t *testing.T) {
	for _, kind := range []int{1, 4, 5} {
		a := of(t, 100)
		says(t, a, raised(kind, 1000), begins(kind, 1000), begins(kind, 1050), begins(kind, 0))
		ticks(t, a, loud(1099), 1099)
		says(t, a, nil, begins(kind, 1099))
		ticks(t, a, escaped(kind, 1100), 1100)
	}
}

// P23.1: AlAsys and AlFib as they are raised end a silence: the next Tick sounds; the other kinds leave it as it is.
func TestRaisedInSilence(t *testing.T) {
	for kind := 1; kind <= 5; kind++ {
		for _, at := range []int64{1000, 1001, 1200, 1999, 2000, 5000, 0, maxAt} {
			a := of(t, greatest)
			ticks(t, a, silent(1000, 1000), 1000, silence(1000))
			says(t, a, raised(kind, at), begins(kind, at))
			if kind == 2 || kind == 3 {
				ticks(t, a, loud(0), 0)
				ticks(t, a, nil, 1001)
				continue
			}
			ticks(t, a, nil, 0)
			ticks(t, a, nil, 1001)
			ticks(t, a, nil, 1999)
			ticks(t, a, loud(2000), 2000)
		}
	}
}

// P23.1: only as it is raised does AlAsys, or AlFib, end a silence: not as it ends, is latched, is on already, is latched and begins again, or is acknowledged.
func TestNotRaisedInSilence(t *testing.T) {
	for _, kind := range []int{2, 3} {
		a := of(t, greatest)
		says(t, a, raised(kind, 900), begins(kind, 900))
		ticks(t, a, loud(900), 900)
		ticks(t, a, and(silent(1000, 1000), still(1000)), 1000, silence(1000))
		says(t, a, nil, begins(kind, 1001))
		ticks(t, a, nil, 1001)
		says(t, a, latched(kind, 1002), ends(kind, 1002))
		ticks(t, a, nil, 1002)
		says(t, a, nil, ends(kind, 1003))
		ticks(t, a, nil, 1003)
		says(t, a, nil, begins(kind, 1004))
		ticks(t, a, nil, 1004)
		says(t, a, latched(kind, 1005), ends(kind, 1005))
		says(t, a, raised(1, 1006), begins(1, 1006))
		ticks(t, a, and(acked(1, 1007), acked(kind, 1007), cleared(kind, 1007)), 1007, ack())
		says(t, a, raised(4, 1008), begins(4, 1008))
		ticks(t, a, nil, 1999)
		ticks(t, a, loud(2000), 2000)
	}
	// A later silence counts, though a fibrillation ended the one ahead.
	a := of(t, greatest)
	ticks(t, a, silent(1000, 1000), 1000, silence(1000))
	says(t, a, raised(3, 1100), begins(3, 1100))
	ticks(t, a, silent(1100, 10), 1100, silence(10))
	ticks(t, a, nil, 1109)
	ticks(t, a, loud(1110), 1110)
}

// P23.1, P23.3: each number of a sample, of what is raised, latched, and cleared: the out has it as it counts.
func TestNumbersOfConds(t *testing.T) {
	for kind := 1; kind <= 5; kind++ {
		for _, n := range edges() {
			a := of(t, greatest)
			says(t, a, raised(kind, nearest(n)), begins(kind, n))
			if kind == 2 || kind == 3 {
				says(t, a, latched(kind, nearest(n)), ends(kind, n))
				continue
			}
			says(t, a, cleared(kind, nearest(n)), ends(kind, n))
			// And it stands since then: of one sample less it has not escalated.
			a = of(t, 3)
			says(t, a, raised(kind, nearest(n)), begins(kind, n))
			a.Tick(n)
			if from := nearest(n); from+3 <= maxAt {
				ticks(t, a, nil, from+2)
				ticks(t, a, escaped(kind, from+3), from+3)
				says(t, a, latched(kind, from), ends(kind, n))
			} else {
				a.Tick(maxAt)
				ticks(t, a, nil, most)
				is(t, a, only(kind, 's'))
			}
		}
	}
}

// P23.1, P23.3: several conditions in one call: what each one says, one behind the other, with its own sample.
func TestSeveralConds(t *testing.T) {
	a := of(t, 100)
	says(t, a, and(raised(5, 9), raised(1, 3), cleared(5, 2), raised(2, 3), latched(2, 8), raised(5, 0), raised(4, maxAt), cleared(1, 0)),
		begins(5, 9), begins(1, 3), begins(5, 1), ends(5, 2), ends(4, 2), begins(2, 3), ends(2, 8), begins(2, 5), begins(5, -7), begins(4, most), ends(1, least))
	is(t, a, ".s.ss")
	says(t, a, and(cleared(4, 1), raised(4, 1), cleared(4, 1), raised(4, 1), latched(2, 1)), ends(4, 1), begins(4, 1), ends(4, 1), begins(4, 1), ends(2, 1))
	is(t, a, ".s.ss")
}

// P23.1: conditions in one call, one by one, and in two calls wherever they are parted, come to the same, where there is no Tick between.
func TestParted(t *testing.T) {
	x := noise(3)
	for range 40 {
		f := &flow{noise: &x, escape: 50, at: 1000}
		first := f.conds(1 + f.upTo(8))
		l := f.conds(40)
		run := func(parts ...[]api.Cond) (said outcome, shows string) {
			a := heldOf(t, 50)
			a.does(t, deed{conds: first})
			a.does(t, deed{at: []int64{1050}, orders: []api.Order{ack()}})
			for _, l := range parts {
				said = append(said, a.does(t, deed{conds: l})...)
			}
			return said, signs(a.Alarm)
		}
		whole, shows := run(l)
		for i := range l {
			if said, s := run(l[:i], l[i:]); !slices.Equal(said, whole) || s != shows {
				t.Fatalf("parted at %d: %v, %s; want %v, %s", i, said, s, whole, shows)
			}
		}
		if said, s := run(slices.Collect(slices.Chunk(l, 1))...); !slices.Equal(said, whole) || s != shows {
			t.Fatalf("one by one: %v, %s; want %v, %s", said, s, whole, shows)
		}
	}
}
