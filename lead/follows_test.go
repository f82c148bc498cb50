package lead_test

import (
	"slices"
	"testing"

	"systole/api"
	"systole/lead"
)

// P9.1, P9.2: long rows of events of all kinds, in pieces of all lengths, none among them, and event by event: what is answered, one behind the other, is what Items answers of all, and each piece as it should be.
func TestPieces(t *testing.T) {
	var x noise
	for range 20 {
		r := rowOf(x.events(60))
		r.holds(t)
		all := lead.Items(r.l...)
		for _, far := range []int{1, 3, 25, 120, 1000} {
			cuts := x.cuts(len(r.l), far)
			r.isPushed(t, cuts...)
			y := lead.New()
			var got []api.Item
			at := 0
			for _, to := range append(cuts, len(r.l)) {
				got = append(got, y.Push(r.l[at:to]...)...)
				at = to
			}
			if !slices.Equal(got, all) {
				t.Fatalf("%d events in pieces of up to %d: %d items; want %d", len(r.l), far, len(got), len(all))
			}
		}
	}
}

// P9.2: On says behind each event what was told last, by an ItOff or an ItOn; ahead of the first of them that it is on.
func TestOnIsWhatWasTold(t *testing.T) {
	var noise noise
	x := lead.New()
	on, turns := true, 0
	for i, e := range noise.events(500) {
		for _, item := range x.Push(e) {
			switch item.Kind {
			case api.ItOff:
				on = false
				turns++
			case api.ItOn:
				on = true
				turns++
			}
		}
		for range 2 {
			if x.On() != on {
				t.Fatalf("On behind %d events: %v", i+1, !on)
			}
		}
	}
	if turns < 10 {
		t.Fatalf("it turned %d times alone", turns)
	}
}

// P9.3: behind 20 samples with Off, and no gap between, it is off, and behind 100 without it is on; at an end of fewer it does not become so.
func TestInTime(t *testing.T) {
	var noise noise
	for range 10 {
		x := lead.New()
		many, with := 0, false
		for i, e := range noise.events(200) {
			ahead := x.On()
			x.Push(e)
			switch {
			case e.Kind == 1:
				many = 0
			case e.Kind == 2 && e.Off == with:
				many++
			case e.Kind == 2:
				many, with = 1, e.Off
			}
			switch {
			case with && many >= 20 && x.On():
				t.Fatalf("event %d: on behind %d samples with Off", i, many)
			case !with && many >= 100 && !x.On():
				t.Fatalf("event %d: off behind %d samples without", i, many)
			case ahead && !x.On() && (!with || many != 20):
				t.Fatalf("event %d: it goes off; Off is %v of %d samples", i, with, many)
			case !ahead && x.On() && (with || many != 100):
				t.Fatalf("event %d: it comes on; Off is %v of %d samples", i, with, many)
			}
		}
	}
}

// P9.3: the same for each number of samples, from one on: of fewer than 20, and 100, not, of more once.
func TestEachNumber(t *testing.T) {
	for n := 1; n <= 250; n++ {
		if got, want := len(turned(lead.Items(came(-n)...))), n/20; got != min(want, 1) {
			t.Errorf("%d samples with Off: it turns %d times", n, got)
		}
		if got, want := len(turned(lead.Items(came(-20, n)...))), n/100; got != 1+min(want, 1) {
			t.Errorf("%d samples without behind 20 with: it turns %d times", n, got)
		}
		if got := len(turned(lead.Items(came(n)...))); got != 0 {
			t.Errorf("%d samples without: it turns %d times", n, got)
		}
	}
}

// P9.4: of each sample there is just one ItSample or ItDark, in order, and of each gap one ItGap between them; off and on take turns, and each comes just ahead of its sample's.
func TestOneEach(t *testing.T) {
	var x noise
	for range 20 {
		l := slices.DeleteFunc(x.events(80), func(e api.Event) bool { return e.Kind != 1 && e.Kind != 2 })
		items := lead.Items(l...)
		on := true
		for i := 0; i < len(items); i++ {
			item := items[i]
			switch {
			case len(l) == 0:
				t.Fatalf("behind all events: %v", items[i:])
			case item.At != l[0].At:
				t.Fatalf("item %d: %v; of the event %v", i, item, l[0])
			case item.Kind == 2 && on && l[0].Kind == 2, item.Kind == 3 && !on && l[0].Kind == 2:
				on = !on
				continue
			case item.Kind == 4 && on && l[0].Kind == 2 && item.V == l[0].V:
			case item.Kind == 5 && !on && l[0].Kind == 2 && item.V == 0:
			case item.Kind == 1 && l[0].Kind == 1 && item.V == 0 && (i == 0 || items[i-1].Kind != 2 && items[i-1].Kind != 3):
			default:
				t.Fatalf("item %d: %v; of the event %v, the lead being on: %v", i, item, l[0], on)
			}
			l = l[1:]
		}
		if len(l) > 0 {
			t.Fatalf("nothing of the last %d events", len(l))
		}
	}
}

// P9.3: a lead that is on, or off, for long turns as late, or as early, as any other one.
func TestLong(t *testing.T) {
	x := lead.New()
	if got := turned(x.Push(came(200000)...)); len(got) != 0 {
		t.Errorf("200000 samples without: %v", got)
	}
	if got := turned(x.Push(came(-200000)...)); len(got) != 1 || got[0] != (api.Item{Kind: 2, At: 19}) {
		t.Errorf("200000 samples with: %v", few(got))
	}
	if got := turned(x.Push(came(99, -1, 200000)...)); len(got) != 1 || got[0] != (api.Item{Kind: 3, At: 199}) {
		t.Errorf("200000 samples without, at last: %v", few(got))
	}
}
