package alarm_test

import (
	"testing"
)

// P23.2: what nobody acknowledges escalates at the first Tick that is escape samples behind the Cond's At, or more; once; and is high from then on.
func TestEscape(t *testing.T) {
	for _, kind := range []int{1, 4, 5} {
		for _, escape := range []int64{1, 2, 3, 100, 2000, greatest - 1, greatest} {
			for _, from := range []int64{0, 1, 1000, maxAt - greatest - 5} {
				for _, more := range []int64{0, 1, 5} {
					a := of(t, escape)
					says(t, a, raised(kind, from), begins(kind, from))
					ticks(t, a, loud(from), from)
					ticks(t, a, nil, from+escape-1)
					is(t, a, only(kind, 's'))
					at := from + escape + more
					ticks(t, a, escaped(kind, at), at)
					is(t, a, only(kind, 'S'))
					ticks(t, a, nil, at)
					ticks(t, a, nil, at+1)
					ticks(t, a, nil, at+escape)
					is(t, a, only(kind, 'S'))
				}
			}
		}
	}
}

// P23.2: it is reckoned from the Cond's At, not from the Tick behind it; and a Cond and a Tick of numbers far apart do so at once.
func TestEscapeFromCond(t *testing.T) {
	for _, kind := range []int{1, 4, 5} {
		a := of(t, 100)
		says(t, a, raised(kind, 50), begins(kind, 50))
		ticks(t, a, and(escaped(kind, 150), loud(150)), 150)

		a = of(t, 100)
		ticks(t, a, nil, 9000)
		says(t, a, raised(kind, 50), begins(kind, 50))
		ticks(t, a, loud(149), 149)

		for _, escape := range []int64{1, 100, greatest} {
			a = of(t, escape)
			says(t, a, raised(kind, 0), begins(kind, least))
			ticks(t, a, and(escaped(kind, maxAt), loud(maxAt)), most)

			// Behind a Tick that counts as MaxAt none is so far, if it was raised near there.
			a = of(t, escape)
			says(t, a, raised(kind, maxAt-escape+1), begins(kind, maxAt-escape+1))
			ticks(t, a, loud(maxAt), maxAt+5*escape)
			ticks(t, a, nil, most)
			a = of(t, escape)
			says(t, a, raised(kind, maxAt-escape), begins(kind, maxAt-escape))
			ticks(t, a, and(escaped(kind, maxAt), loud(maxAt)), most)
		}
	}
}

// P23.2: several at one Tick, by rising kinds, each by its own sample.
func TestEscapeSeveral(t *testing.T) {
	a := of(t, 100)
	says(t, a, and(raised(5, 10), raised(4, 11), raised(1, 10)), begins(5, 10), begins(4, 11), begins(1, 10))
	ticks(t, a, loud(109), 109)
	ticks(t, a, and(escaped(1, 110), escaped(5, 110)), 110)
	is(t, a, "S..sS")
	ticks(t, a, escaped(4, 111), 111)
	is(t, a, "S..SS")

	a = of(t, 100)
	says(t, a, and(raised(5, 0), raised(4, 0), raised(3, 0), raised(2, 0), raised(1, 0)), begins(5, 0), begins(4, 0), begins(3, 0), begins(2, 0), begins(1, 0))
	ticks(t, a, and(escaped(1, 500), escaped(4, 500), escaped(5, 500), loud(500)), 500)
}

// P23.2: AlAsys and AlFib never escalate: on, or latched.
func TestHighNeverEscape(t *testing.T) {
	for _, kind := range []int{2, 3} {
		for _, escape := range []int64{1, 100, greatest} {
			a := of(t, escape)
			says(t, a, raised(kind, 10), begins(kind, 10))
			ticks(t, a, loud(10), 10)
			for _, n := range []int64{10 + escape - 1, 10 + escape, 11 + escape, maxAt, most} {
				ticks(t, a, nil, n)
			}
			says(t, a, latched(kind, 20), ends(kind, 20))
			ticks(t, a, nil, 10+escape)
			ticks(t, a, nil, most)
			is(t, a, only(kind, 's'))
		}
	}
}

// P23.2: what is acknowledged never escalates, be it in the very Tick in which it would; nor does what is cleared.
func TestAckedNeverEscape(t *testing.T) {
	for _, kind := range []int{1, 4, 5} {
		for _, at := range []int64{0, 1, 99, 100, 101, 5000, maxAt} {
			a := of(t, 100)
			says(t, a, raised(kind, 0), begins(kind, 0))
			ticks(t, a, acked(kind, at), at, ack())
			is(t, a, only(kind, 'a'))
			for _, n := range []int64{99, 100, 101, at + 100, maxAt, most} {
				ticks(t, a, nil, n)
			}
			is(t, a, only(kind, 'a'))
			says(t, a, cleared(kind, 7000), ends(kind, 7000))
			ticks(t, a, nil, most)
		}
		a := of(t, 100)
		says(t, a, and(raised(kind, 0), cleared(kind, 50)), begins(kind, 0), ends(kind, 50))
		ticks(t, a, nil, 100)
		ticks(t, a, nil, most)
		is(t, a, ".....")
	}
}

// P23.2: silence does not keep it from escalating, nor does it end the silence.
func TestEscapeInSilence(t *testing.T) {
	for _, kind := range []int{1, 4, 5} {
		a := of(t, 100)
		says(t, a, raised(kind, 0), begins(kind, 0))
		ticks(t, a, silent(10, 200), 10, silence(200))
		ticks(t, a, nil, 99)
		ticks(t, a, escaped(kind, 100), 100)
		ticks(t, a, nil, 209)
		ticks(t, a, loud(210), 210)
	}
}

// P23.2: Ticks that stay at a sample, or go back: each one goes by its own sample alone.
func TestTicksGoBack(t *testing.T) {
	for _, kind := range []int{1, 4, 5} {
		a := of(t, 100)
		says(t, a, raised(kind, 1000), begins(kind, 1000))
		for _, n := range []int64{5, 0, -1, least, 999, 1000, 1000, 900, 1099, 1099, 3} {
			if got := a.Tick(n); n != 5 && len(got) != 0 {
				t.Fatalf("Tick of %d: %v", n, got)
			}
		}
		is(t, a, only(kind, 's'))
		ticks(t, a, escaped(kind, 1100), 1100)
		ticks(t, a, nil, 5)
		is(t, a, only(kind, 'S'))
		ticks(t, a, nil, 1100)

		// Back within a silence it is still, and ahead of it, as it lasts till its end.
		ticks(t, a, and(silent(2000, 50), still(2000)), 2000, silence(50))
		ticks(t, a, loud(2050), 2050)
		ticks(t, a, still(2049), 2049)
		ticks(t, a, loud(2051), 2051)
		ticks(t, a, still(3), 3)
		ticks(t, a, nil, 1999)
		ticks(t, a, loud(2050), 2050)
	}
}
