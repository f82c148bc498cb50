package alarm_test

import (
	"math"
	"testing"

	"systole/alarm"
	"systole/api"
)

// P23.2: an OrAck of each kind in each state: what stands unacknowledged is acknowledged, and is cleared, if it is not on.
func TestAckEachState(t *testing.T) {
	for kind := 1; kind <= 5; kind++ {
		for _, w := range ways(kind) {
			a := w.alarm(kind)
			sounded := a.Sounds()
			var want outcome
			sign := w.sign
			switch {
			case w.sign != 's' && w.sign != 'S':
			case w.end == 0:
				// It is not on.
				want, sign = and(acked(kind, 1999), cleared(kind, 1999)), '.'
			default:
				want, sign = acked(kind, 1999), w.sign-'s'+'a'
			}
			if sounded {
				want = and(want, still(1999))
			}
			ticks(t, a, want, 1999, ack())
			is(t, a, only(kind, sign))
			// Once more, in the same Tick and in later ones, there is nothing to say.
			ticks(t, a, nil, 1999, ack())
			ticks(t, a, nil, 5000, ack(), ack())
			is(t, a, only(kind, sign))
		}
	}
}

// P23.2: an OrAck with nothing that stands says nothing.
func TestAckOfNothing(t *testing.T) {
	for _, n := range edges() {
		a := of(t, 1)
		ticks(t, a, nil, n, ack())
		ticks(t, a, nil, n, ack(), ack(), ack())
		is(t, a, ".....")
		says(t, a, and(raised(1, 1), cleared(1, 2)), begins(1, 1), ends(1, 2))
		ticks(t, a, nil, n, ack())
	}
}

// P23.2: all five, by rising kinds, in whichever order they were raised; of those that are not on OutAck, and then OutClear.
func TestAckAll(t *testing.T) {
	for _, row := range [][]int{{1, 2, 3, 4, 5}, {5, 4, 3, 2, 1}, {3, 5, 1, 4, 2}} {
		a := of(t, 100)
		for i, kind := range row {
			says(t, a, raised(kind, int64(i)), begins(kind, int64(i)))
		}
		ticks(t, a, and(acked(1, 50), acked(2, 50), acked(3, 50), acked(4, 50), acked(5, 50)), 50, ack())
		is(t, a, "aaaaa")
		says(t, a, and(cleared(3, 60), cleared(1, 61), cleared(2, 62)), ends(3, 60), ends(1, 61), ends(2, 62))
		is(t, a, "...aa")
		ticks(t, a, nil, 63, ack())

		a = of(t, 100)
		for _, kind := range row {
			a.Conds(begins(kind, 0))
		}
		ticks(t, a, and(escaped(1, 100), escaped(4, 100), escaped(5, 100), loud(100)), 100)
		is(t, a, "SssSS")
		says(t, a, and(latched(4, 110), latched(1, 110), latched(3, 110)), ends(4, 110), ends(1, 110), ends(3, 110))
		is(t, a, "SssSS")
		ticks(t, a, and(acked(1, 120), cleared(1, 120), acked(2, 120), acked(3, 120), cleared(3, 120), acked(4, 120), cleared(4, 120), acked(5, 120), still(120)), 120, ack(), ack())
		is(t, a, ".a..A")

		// All of them latched.
		says(t, a, and(raised(1, 130), raised(3, 130), raised(4, 130), cleared(2, 131), cleared(5, 131), raised(2, 132), raised(5, 132)),
			begins(1, 130), begins(3, 130), begins(4, 130), ends(2, 131), ends(5, 131), begins(2, 132), begins(5, 132))
		ticks(t, a, and(escaped(1, 999), escaped(4, 999), escaped(5, 999), loud(999)), 999)
		for _, kind := range row {
			says(t, a, latched(kind, 1000), ends(kind, 1000))
		}
		ticks(t, a, and(acked(1, 1001), cleared(1, 1001), acked(2, 1001), cleared(2, 1001), acked(3, 1001), cleared(3, 1001), acked(4, 1001), cleared(4, 1001), acked(5, 1001), cleared(5, 1001), still(1001)), 1001, ack())
		is(t, a, ".....")
	}
}

// P23.2: those that are acknowledged already say nothing at an OrAck that acknowledges others.
func TestAckOthers(t *testing.T) {
	a := of(t, 1000)
	says(t, a, and(raised(2, 1), raised(4, 1)), begins(2, 1), begins(4, 1))
	ticks(t, a, and(acked(2, 2), acked(4, 2)), 2, ack())
	says(t, a, and(raised(3, 3), raised(5, 3), raised(1, 3), latched(3, 4)), begins(3, 3), begins(5, 3), begins(1, 3), ends(3, 4))
	is(t, a, "sasas")
	ticks(t, a, and(acked(1, 5), acked(3, 5), cleared(3, 5), acked(5, 5)), 5, ack())
	is(t, a, "aa.aa")
}

// P23.2: an order's own At plays no part, nor does an OrAck's N.
func TestWhatPlaysNoPart(t *testing.T) {
	for _, n := range edges() {
		a := of(t, greatest)
		says(t, a, and(raised(2, 1), latched(2, 2), raised(4, 3)), begins(2, 1), ends(2, 2), begins(4, 3))
		ticks(t, a, and(acked(2, 10), cleared(2, 10), acked(4, 10)), 10, api.Order{At: n, Kind: 1, N: n})
		is(t, a, "...a.")
		says(t, a, raised(5, 20), begins(5, 20))
		ticks(t, a, silent(20, 7), 20, api.Order{At: n, Kind: 2, N: 7})
		ticks(t, a, nil, 26)
		ticks(t, a, loud(27), 27)
	}
}

// P23.2: orders of kinds that there aren't are passed over; the others of the same call count.
func TestOtherOrders(t *testing.T) {
	for _, kind := range append(otherKinds(), 3, 4, 5, math.MinInt+1, math.MinInt+2) {
		for _, n := range []int64{0, 1, 50, longest, most, least} {
			other := api.Order{At: n, Kind: kind, N: n}
			a := of(t, greatest)
			ticks(t, a, nil, 5, other)
			says(t, a, and(raised(3, 9), raised(4, 9)), begins(3, 9), begins(4, 9))
			ticks(t, a, loud(9), 9, other, other)
			is(t, a, "..ss.")
			ticks(t, a, nil, 10, other)
			ticks(t, a, and(silent(11, 2), still(11)), 11, other, silence(2), other)
			ticks(t, a, nil, 12, other)
			ticks(t, a, loud(13), 13)
			ticks(t, a, and(acked(3, 14), acked(4, 14), still(14)), 14, other, ack(), other)
			is(t, a, "..aa.")
		}
	}
}

// P23.2: an OrSilence with an N from 1 to MaxQuiet is told with it; others are passed over, and leave a silence that there is.
func TestSilenceOfEachLength(t *testing.T) {
	for _, n := range append(edges(), 1<<32+50, -1<<32+50, longest-2, longest+2) {
		a := of(t, greatest)
		says(t, a, raised(4, 100), begins(4, 100))
		if n < 1 || n > longest {
			ticks(t, a, loud(100), 100, silence(n))
			ticks(t, a, and(silent(200, 70), still(200)), 200, silence(n), silence(70), silence(n))
			ticks(t, a, nil, 269, silence(n))
			ticks(t, a, loud(270), 270, silence(n))
			continue
		}
		ticks(t, a, silent(100, n), 100, silence(n))
		ticks(t, a, nil, 100+n-1)
		ticks(t, a, loud(100+n), 100+n)
		ticks(t, a, nil, 100+n+1)
	}
}

// P23.2: a silence ends at its end, and not ahead: at a Tick of just that sample, or of the first one behind.
func TestSilenceEnds(t *testing.T) {
	for _, n := range []int64{1, 2, 50, 1000, longest} {
		for _, from := range []int64{0, 1, 1000, 1 << 32} {
			for _, more := range []int64{0, 1, 2, 5000} {
				for kind := 1; kind <= 5; kind++ {
					a := of(t, greatest)
					says(t, a, raised(kind, from), begins(kind, from))
					ticks(t, a, silent(from, n), from, silence(n))
					ticks(t, a, nil, from+n-1)
					ticks(t, a, loud(from+n+more), from+n+more)
				}
			}
		}
	}
}

// P23.2: of two silences the later one counts, be it shorter or longer; in one Tick, and in two.
func TestTwoSilences(t *testing.T) {
	of2 := func() *alarm.Alarm {
		a := of(t, greatest)
		says(t, a, raised(4, 0), begins(4, 0))
		return a
	}
	for _, c := range [][2]int64{{50, 10}, {10, 50}, {50, 50}, {longest, 1}, {1, longest}} {
		first, second := c[0], c[1]
		a := of2()
		ticks(t, a, and(silent(1000, first), silent(1000, second)), 1000, silence(first), silence(second))
		ticks(t, a, nil, 1000+second-1)
		ticks(t, a, loud(1000+second), 1000+second)

		a = of2()
		ticks(t, a, silent(1000, first), 1000, silence(first))
		at := 1000 + first - 1
		ticks(t, a, silent(at, second), at, silence(second))
		ticks(t, a, nil, at+second-1)
		ticks(t, a, loud(at+second), at+second)

		// Behind the first one's end, too, and at a sample ahead of it.
		ticks(t, a, and(silent(500, second), still(500)), 500, silence(second))
		ticks(t, a, nil, 500+second-1)
		ticks(t, a, loud(500+second), 500+second)
	}
}

// P23.2: silences near MaxAt, and at what counts as 0 or as MaxAt: they last so many samples from the sample as it counts, though there may be none so far.
func TestSilenceAtEnds(t *testing.T) {
	for _, n := range []int64{0, -1, -50, least} {
		a := of(t, greatest)
		says(t, a, raised(1, 0), begins(1, n))
		ticks(t, a, silent(0, 50), n, silence(50))
		ticks(t, a, nil, 49)
		ticks(t, a, loud(50), 50)
		ticks(t, a, still(0), n)
	}
	for _, n := range []int64{maxAt, maxAt + 1, maxAt + 50, most} {
		a := of(t, greatest)
		says(t, a, raised(1, maxAt), begins(1, n))
		ticks(t, a, silent(maxAt-50, 50), maxAt-50, silence(50))
		ticks(t, a, nil, maxAt-1)
		ticks(t, a, loud(maxAt), n)

		for _, many := range []int64{1, 50, longest} {
			a = of(t, greatest)
			says(t, a, raised(2, 0), begins(2, 0))
			ticks(t, a, silent(maxAt-many+1, many), maxAt-many+1, silence(many))
			ticks(t, a, nil, maxAt)
			ticks(t, a, nil, n)
			ticks(t, a, silent(maxAt, many), n, silence(many))
			ticks(t, a, nil, n)
			ticks(t, a, nil, most)
		}
	}
}

// P23.2: OrAck and OrSilence in one Tick: one by one, in the order in which they come.
func TestAckAndSilence(t *testing.T) {
	a := of(t, greatest)
	says(t, a, and(raised(2, 1), raised(5, 1)), begins(2, 1), begins(5, 1))
	ticks(t, a, loud(1), 1)
	b := a.Clone()
	ticks(t, a, and(acked(2, 2), acked(5, 2), silent(2, 50), still(2)), 2, ack(), silence(50))
	ticks(t, b, and(silent(2, 50), acked(2, 2), acked(5, 2), still(2)), 2, silence(50), ack())
	for _, x := range []*alarm.Alarm{a, b} {
		is(t, x, ".a..a")
		says(t, x, raised(4, 10), begins(4, 10))
		ticks(t, x, nil, 51)
		ticks(t, x, loud(52), 52)
		ticks(t, x, and(silent(60, 9), acked(4, 60), silent(60, 5), still(60)), 60, silence(9), silence(0), ack(), api.Order{Kind: 3}, silence(5), ack())
		says(t, x, raised(1, 61), begins(1, 61))
		ticks(t, x, nil, 64)
		ticks(t, x, loud(65), 65)
	}
}
