package alarm_test

import (
	"testing"

	"systole/api"
)

// P23.2: it sounds from a Tick on, not from Conds on; and says so once, with N 1.
func TestSounds(t *testing.T) {
	for kind := 1; kind <= 5; kind++ {
		a := of(t, greatest)
		ticks(t, a, nil, 5)
		says(t, a, raised(kind, 10), begins(kind, 10))
		if a.Sounds() {
			t.Fatal("it sounds ahead of a Tick")
		}
		ticks(t, a, loud(10), 10)
		for range 3 {
			if !a.Sounds() {
				t.Fatal("it does not sound")
			}
			ticks(t, a, nil, 10)
			ticks(t, a, nil, 11)
		}
		// What sounded goes on to do so till the next Tick.
		a.Conds(ends(kind, 12))
		if !a.Sounds() {
			t.Fatal("it stopped ahead of a Tick")
		}
	}
}

// P23.2: it stops with the clear of the last one; what is latched goes on.
func TestSoundStopsWithClear(t *testing.T) {
	for _, kind := range []int{1, 4, 5} {
		for _, other := range []int{1, 2, 3, 4, 5} {
			if other == kind {
				continue
			}
			a := of(t, greatest)
			says(t, a, raised(kind, 10), begins(kind, 10))
			ticks(t, a, loud(10), 10)
			says(t, a, cleared(kind, 20), ends(kind, 20))
			ticks(t, a, still(20), 20)
			ticks(t, a, nil, 21)
			if a.Sounds() {
				t.Fatal("it sounds")
			}
			says(t, a, raised(kind, 30), begins(kind, 30))
			ticks(t, a, loud(30), 30)
			says(t, a, and(raised(other, 31), cleared(kind, 32)), begins(other, 31), ends(kind, 32))
			ticks(t, a, nil, 33)
			a.Conds(ends(other, 34))
			if other == 2 || other == 3 {
				ticks(t, a, nil, 34)
				ticks(t, a, nil, 9999)
			} else {
				ticks(t, a, still(34), 34)
			}
		}
	}
	// Cleared and raised anew between two Ticks: it never stopped.
	a := of(t, greatest)
	says(t, a, raised(4, 10), begins(4, 10))
	ticks(t, a, loud(10), 10)
	says(t, a, and(cleared(4, 11), raised(4, 12)), ends(4, 11), begins(4, 12))
	ticks(t, a, nil, 12)
}

// P23.2: it stops with the last acknowledgement, as what is acknowledged is silent, though it stands; and begins again with the next one that is raised.
func TestSoundStopsWithAck(t *testing.T) {
	for kind := 1; kind <= 5; kind++ {
		for other := 1; other <= 5; other++ {
			if other == kind {
				continue
			}
			a := of(t, greatest)
			says(t, a, raised(kind, 10), begins(kind, 10))
			ticks(t, a, loud(10), 10)
			ticks(t, a, and(acked(kind, 20), still(20)), 20, ack())
			if a.Sounds() || !a.Stands(kind) {
				t.Fatal("it sounds, or does not stand")
			}
			ticks(t, a, nil, 21)
			says(t, a, raised(other, 30), begins(other, 30))
			ticks(t, a, loud(30), 30)
			says(t, a, cleared(kind, 31), ends(kind, 31))
			ticks(t, a, nil, 31)
			ticks(t, a, and(acked(other, 32), still(32)), 32, ack())
		}
	}
}

// P23.2: what is raised and acknowledged at one Tick never sounds; nor what is silenced at it, till the silence's end.
func TestNeverSounds(t *testing.T) {
	for kind := 1; kind <= 5; kind++ {
		a := of(t, greatest)
		says(t, a, raised(kind, 10), begins(kind, 10))
		ticks(t, a, acked(kind, 10), 10, ack())
		ticks(t, a, nil, 11)

		a = of(t, greatest)
		says(t, a, raised(kind, 10), begins(kind, 10))
		ticks(t, a, silent(10, 5), 10, silence(5))
		ticks(t, a, acked(kind, 14), 14, ack())
		ticks(t, a, nil, 15)
	}
}

// P23.2: it stops with a silence, and begins again at its end.
func TestSoundStopsWithSilence(t *testing.T) {
	for kind := 1; kind <= 5; kind++ {
		for _, n := range []int64{1, 2, 50, longest} {
			a := of(t, greatest)
			says(t, a, raised(kind, 10), begins(kind, 10))
			ticks(t, a, loud(10), 10)
			ticks(t, a, and(silent(20, n), still(20)), 20, silence(n))
			if a.Sounds() {
				t.Fatal("it sounds")
			}
			ticks(t, a, nil, 20+n-1)
			ticks(t, a, loud(20+n), 20+n)
			ticks(t, a, nil, 20+2*n)
			if !a.Sounds() {
				t.Fatal("it does not sound")
			}
		}
	}
	// A silence at which nothing sounds says nothing of the sound.
	a := of(t, greatest)
	ticks(t, a, silent(0, 5), 0, silence(5))
	ticks(t, a, nil, 5)
	// And what is raised behind its end sounds at once.
	says(t, a, raised(4, 6), begins(4, 6))
	ticks(t, a, loud(6), 6)
}

// P23.2, P23.3: the order within a Tick's answer: what the orders say, one by one; then what escalates; then the sound. Of each the sample is the Tick's, the alarm 0 of the silence and the sound, and N 0 of all others.
func TestOrderWithinTick(t *testing.T) {
	rows := func(at, counts int64) {
		t.Helper()
		a := of(t, 5)
		says(t, a, and(raised(5, 0), raised(2, 0), latched(2, 0)), begins(5, 0), begins(2, 0), ends(2, 0))
		ticks(t, a, loud(0), 0)
		ticks(t, a, outcome{
			{Kind: api.OutAck, At: 3, Alarm: 2},
			{Kind: api.OutClear, At: 3, Alarm: 2},
			{Kind: api.OutAck, At: 3, Alarm: 5},
			{Kind: api.OutSound, At: 3},
		}, 3, ack())
		says(t, a, and(raised(4, 0), raised(1, 0), raised(3, 0)), begins(4, 0), begins(1, 0), begins(3, 0))
		b := a.Clone()
		ticks(t, a, outcome{
			{Kind: api.OutEscape, At: counts, Alarm: 1},
			{Kind: api.OutEscape, At: counts, Alarm: 4},
			{Kind: api.OutSound, At: counts, N: 1},
		}, at)
		is(t, a, "S.sSa")
		ticks(t, b, loud(4), 4)
		ticks(t, b, outcome{
			{Kind: api.OutSilence, At: counts, N: 9},
			{Kind: api.OutSilence, At: counts, N: 7},
			{Kind: api.OutEscape, At: counts, Alarm: 1},
			{Kind: api.OutEscape, At: counts, Alarm: 4},
			{Kind: api.OutSound, At: counts},
		}, at, silence(9), silence(7))
		says(t, b, latched(4, 2), ends(4, 2))
		ticks(t, b, outcome{
			{Kind: api.OutAck, At: counts, Alarm: 1},
			{Kind: api.OutAck, At: counts, Alarm: 3},
			{Kind: api.OutAck, At: counts, Alarm: 4},
			{Kind: api.OutClear, At: counts, Alarm: 4},
			{Kind: api.OutSilence, At: counts, N: 1},
		}, at, ack(), silence(1))
	}
	rows(5, 5)
	rows(12345, 12345)
	rows(maxAt, maxAt)
	rows(maxAt+1, maxAt)
	rows(most, maxAt)
}

// P23.3: at each sample what a Tick says has the sample's number as it counts.
func TestNumbersOfTicks(t *testing.T) {
	for _, n := range edges() {
		at := nearest(n)
		a := of(t, greatest)
		says(t, a, and(raised(2, 5), latched(2, 5), raised(1, maxAt), raised(3, 7)), begins(2, 5), ends(2, 5), begins(1, maxAt), begins(3, 7))
		ticks(t, a, loud(at), n)
		ticks(t, a, and(silent(at, longest), still(at)), n, silence(longest))
		ticks(t, a, and(acked(1, at), acked(2, at), cleared(2, at), acked(3, at)), n, ack())
		is(t, a, "a.a..")
	}
}
