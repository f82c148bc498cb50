package alarm_test

import (
	"math"
	"testing"

	"systole/alarm"
	"systole/api"
)

// The chapter's example: an asystole is raised, sounds, is latched, and is cleared as it is acknowledged.
func TestExample(t *testing.T) {
	for _, escape := range []int64{1, 100, 2000, greatest} {
		a := of(t, escape)
		says(t, a, outcome{{Kind: api.OutRaise, At: 100, Alarm: api.AlAsys}}, api.Cond{Kind: api.AlAsys, At: 100, On: true})
		ticks(t, a, outcome{{Kind: api.OutSound, At: 100, N: 1}}, 100)
		is(t, a, ".s...")
		says(t, a, outcome{{Kind: api.OutLatch, At: 200, Alarm: api.AlAsys}}, api.Cond{Kind: api.AlAsys, At: 200})
		is(t, a, ".s...")
		ticks(t, a, outcome{
			{Kind: api.OutAck, At: 201, Alarm: api.AlAsys},
			{Kind: api.OutClear, At: 201, Alarm: api.AlAsys},
			{Kind: api.OutSound, At: 201},
		}, 201, api.Order{Kind: api.OrAck})
		is(t, a, ".....")
	}
}

// P23.1 to P23.3: the kinds' names, and the limit, written out.
func TestKinds(t *testing.T) {
	if outs := [...]int{api.OutRaise, api.OutClear, api.OutLatch, api.OutAck, api.OutEscape, api.OutSound, api.OutSilence}; outs != [...]int{2, 3, 4, 5, 6, 7, 8} {
		t.Errorf("kinds of outs: %v", outs)
	}
	if orders := [...]int{api.OrAck, api.OrSilence, api.MaxQuiet}; orders != [...]int{1, 2, longest} {
		t.Errorf("kinds of orders, and the longest silence: %v", orders)
	}
	if kinds := [...]int{api.AlLead, api.AlAsys, api.AlFib, api.AlTach, api.AlBrad}; kinds != [...]int{1, 2, 3, 4, 5} {
		t.Errorf("kinds of alarms: %v", kinds)
	}
}

// P23.1: ErrArg, and nil, unless escape is from 1 to 2^20.
func TestNew(t *testing.T) {
	for _, n := range append(edges(), 1<<20-1, 1<<20, 1<<20+1, 1<<32+1, 1<<32+100, -1<<32+100, least+100) {
		a, e := alarm.New(n)
		if n >= 1 && n <= greatest {
			if e != api.OK || a == nil {
				t.Fatalf("New(%d): %v, %v", n, a, e)
			}
			is(t, a, ".....")
			continue
		}
		if e != api.ErrArg || a != nil {
			t.Fatalf("New(%d): %v, %v", n, a, e)
		}
	}
}

// P23.1, P23.3: of a new alarm nothing stands, nor sounds; without a condition, and without an order, nothing is said, wherever that is.
func TestNewAlarm(t *testing.T) {
	for _, escape := range []int64{1, 2, 100, greatest} {
		a := of(t, escape)
		for _, n := range edges() {
			says(t, a, nil)
			says(t, a, nil, []api.Cond{}...)
			ticks(t, a, nil, n)
			ticks(t, a, nil, n, []api.Order{}...)
			if a.Sounds() {
				t.Fatal("it sounds")
			}
			is(t, a, ".....")
		}
	}
}

// P23.1: at first it is silenced till 0: what is raised sounds at whichever Tick is the next one.
func TestNewIsNotSilenced(t *testing.T) {
	for kind := 1; kind <= 5; kind++ {
		for _, n := range edges() {
			a := of(t, greatest)
			says(t, a, raised(kind, nearest(n)), begins(kind, n))
			ticks(t, a, loud(0), 0)
			a = of(t, greatest)
			says(t, a, raised(kind, 0), begins(kind, 0))
			if got := a.Tick(n); len(got) == 0 || got[len(got)-1] != loud(nearest(n))[0] {
				t.Fatalf("Tick of %d: %v", n, got)
			}
		}
	}
}

// P23.1: conditions of kinds that there aren't are passed over, and the others of the same call count, whatever stands.
func TestOtherKinds(t *testing.T) {
	for _, kind := range otherKinds() {
		for _, n := range edges() {
			a := of(t, 100)
			says(t, a, nil, begins(kind, n), ends(kind, n), begins(kind, n))
			is(t, a, ".....")
			says(t, a, raised(5, 7), begins(kind, n), begins(5, 7), ends(kind, n))
			is(t, a, "....s")
			says(t, a, cleared(5, 8), ends(kind, n), ends(5, 8), begins(kind, n))
			is(t, a, ".....")
		}
		a := of(t, 100)
		all := []api.Cond{begins(1, 1), begins(kind, 1), begins(2, 1), begins(kind, 1), begins(3, 1), ends(kind, 1), begins(4, 1), begins(kind, 1), begins(5, 1)}
		says(t, a, and(raised(1, 1), raised(2, 1), raised(3, 1), raised(4, 1), raised(5, 1)), all...)
		is(t, a, "sssss")
		says(t, a, nil, begins(kind, 2), ends(kind, 3))
		is(t, a, "sssss")
	}
}

// P23.3: Stands, High and Acked of kinds that there aren't, in each state.
func TestAskedOfOtherKinds(t *testing.T) {
	for kind := 1; kind <= 5; kind++ {
		for _, w := range ways(kind) {
			a := w.alarm(kind)
			is(t, a, only(kind, w.sign))
			for _, other := range append(otherKinds(), kind+1<<3, kind+1<<32, -kind, kind+math.MinInt) {
				if a.Stands(other) || a.High(other) || a.Acked(other) {
					t.Fatalf("%d %s; of %d: %v, %v, %v", kind, w.name, other, a.Stands(other), a.High(other), a.Acked(other))
				}
			}
		}
	}
}

// R6: each call of an alarm that no call made, that is nil: nothing, false, nil, whatever comes.
func TestNil(t *testing.T) {
	var a *alarm.Alarm
	asked := func() {
		t.Helper()
		for _, kind := range append(otherKinds(), 1, 2, 3, 4, 5) {
			if a.Stands(kind) || a.High(kind) || a.Acked(kind) {
				t.Fatalf("Stands, High, Acked of %d: %v, %v, %v", kind, a.Stands(kind), a.High(kind), a.Acked(kind))
			}
		}
		if a.Sounds() || a.Clone() != nil || a != nil {
			t.Fatal("it sounds, or there is something")
		}
	}
	asked()
	for range 2 {
		says(t, a, nil)
		says(t, a, nil, []api.Cond{}...)
		for kind := range 7 {
			says(t, a, nil, begins(kind, 5))
			says(t, a, nil, ends(kind, 6))
		}
		says(t, a, nil, begins(1, 1), begins(2, 1), begins(3, 1), begins(4, most), ends(5, least))
		asked()
		for _, n := range edges() {
			ticks(t, a, nil, n)
			ticks(t, a, nil, n, ack())
			ticks(t, a, nil, n, silence(50), ack(), api.Order{Kind: 3}, silence(0))
		}
		asked()
	}
}
