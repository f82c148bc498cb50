package alarm_test

import (
	"slices"
	"testing"

	"systole/api"
)

// P23.1 to P23.3: long rows of random conditions, Ticks and orders with random escapes, held against the chapter's words; and that each out was said often enough to say something.
func TestRows(t *testing.T) {
	var x noise
	var said [9][6]int
	for range 150 {
		escape := x.escape()
		h := heldOf(t, escape)
		for _, d := range x.rowOf(escape, 600) {
			for _, o := range h.does(t, d) {
				said[o.Kind][o.Alarm]++
			}
		}
	}
	for kind := 2; kind <= 8; kind++ {
		for alarm := range 6 {
			alone := kind == api.OutSound || kind == api.OutSilence
			never := alone != (alarm == 0) || kind == api.OutEscape && (alarm == 2 || alarm == 3)
			if many := said[kind][alarm]; never != (many == 0) || !never && many < 200 {
				t.Errorf("outs of kind %d, of alarm %d: %d", kind, alarm, many)
			}
		}
	}
}

// P23.5: of each kind what is raised is cleared ahead of being raised again; it is latched, acknowledged and escalated only between: the latter two once, and AlAsys and AlFib never escalate.
func TestTurns(t *testing.T) {
	x := noise(17)
	for range 150 {
		escape := x.escape()
		a := of(t, escape)
		var stands, acked, escalated [6]bool
		for _, d := range x.rowOf(escape, 600) {
			for _, o := range d.of(a) {
				k, wrong := o.Alarm, false
				switch o.Kind {
				case api.OutRaise:
					wrong = stands[k]
					stands[k], acked[k], escalated[k] = true, false, false
				case api.OutClear:
					wrong = !stands[k] || (k == 2 || k == 3 || escalated[k]) && !acked[k]
					stands[k] = false
				case api.OutLatch:
					wrong = !stands[k] || acked[k] || k != 2 && k != 3 && !escalated[k]
				case api.OutAck:
					wrong = !stands[k] || acked[k]
					acked[k] = true
				case api.OutEscape:
					wrong = !stands[k] || acked[k] || escalated[k] || k == 2 || k == 3
					escalated[k] = true
				}
				if wrong {
					t.Fatalf("escape %d, %+v: %v", escape, d, o)
				}
			}
			for kind := 1; kind <= 5; kind++ {
				if a.Stands(kind) != stands[kind] {
					t.Fatalf("Stands(%d): %v", kind, a.Stands(kind))
				}
			}
		}
	}
}

// P23.4: a high alarm that is not acknowledged stands, whatever its condition, and all others, do, and whichever Ticks and silences come, till an OrAck.
func TestLatched(t *testing.T) {
	x := noise(19)
	for kind := 1; kind <= 5; kind++ {
		for _, w := range ways(kind) {
			if w.sign != 'S' && (w.sign != 's' || kind != 2 && kind != 3) {
				continue
			}
			a := w.alarm(kind)
			for _, d := range x.rowOf(100, 400) {
				d.orders = slices.DeleteFunc(d.orders, func(o api.Order) bool { return o.Kind == api.OrAck })
				d.of(a)
				if !a.Stands(kind) || !a.High(kind) || a.Acked(kind) {
					t.Fatalf("%d %s, %+v: it stands as %s", kind, w.name, d, signs(a))
				}
			}
			a.Tick(5, ack())
			a.Conds(ends(kind, 6))
			if a.Stands(kind) {
				t.Fatalf("%d %s: it stands as %s behind an OrAck", kind, w.name, signs(a))
			}
		}
	}
}

// P23.6: what stands, and nobody acknowledged, sounds at each Tick that is not ahead of the last silence's end; where all is acknowledged, or nothing stands, nothing sounds.
func TestHeard(t *testing.T) {
	x := noise(23)
	heard, silenced := 0, 0
	for range 100 {
		escape := x.escape()
		a := of(t, escape)
		var till int64
		for _, d := range x.rowOf(escape, 600) {
			sounded := a.Sounds()
			for _, o := range d.of(a) {
				if o.Kind == api.OutSilence {
					till = o.At + o.N
				}
			}
			waits := false
			for kind := 1; kind <= 5; kind++ {
				waits = waits || a.Stands(kind) && !a.Acked(kind)
			}
			if len(d.at) == 0 {
				if a.Sounds() != sounded {
					t.Fatalf("%+v: Sounds: %v", d, a.Sounds())
				}
				continue
			}
			if waits && nearest(d.at[0]) >= till {
				heard++
				if !a.Sounds() {
					t.Fatalf("%+v, silenced till %d: it does not sound", d, till)
				}
			}
			if waits && !a.Sounds() {
				silenced++
			}
			if !waits && a.Sounds() {
				t.Fatalf("%+v: it sounds", d)
			}
		}
	}
	if heard < 5000 || silenced < 2000 {
		t.Errorf("heard %d times, silenced %d times", heard, silenced)
	}
}

// P23.7: what is on, and nobody acknowledged for escape samples, is high behind a Tick there.
func TestEscalated(t *testing.T) {
	x := noise(29)
	var many [6]int
	for range 100 {
		escape := x.escape()
		a := of(t, escape)
		var on [6]bool
		var since [6]int64
		for _, d := range x.rowOf(escape, 600) {
			for _, o := range d.of(a) {
				if o.Kind == api.OutRaise {
					since[o.Alarm] = o.At
				}
			}
			for _, c := range d.conds {
				if c.Kind >= 1 && c.Kind <= 5 {
					on[c.Kind] = c.On
				}
			}
			for kind := 1; kind <= 5 && len(d.at) > 0; kind++ {
				if on[kind] && !a.Acked(kind) && nearest(d.at[0])-since[kind] >= escape {
					many[kind]++
					if !a.Stands(kind) || !a.High(kind) {
						t.Fatalf("escape %d, %+v: it stands as %s", escape, d, signs(a))
					}
				}
			}
		}
	}
	for kind := 1; kind <= 5; kind++ {
		if many[kind] < 300 {
			t.Errorf("of kind %d it was so %d times", kind, many[kind])
		}
	}
}

// R4: conditions and orders that are handed on as a list are as they were behind a call, and so is what lies behind the list's length, which isn't read.
func TestArgumentsStay(t *testing.T) {
	x := noise(31)
	for range 30 {
		f := &flow{noise: &x, escape: 100, at: 1000}
		conds, orders := f.conds(60), f.orders(60)
		conds2, orders2 := slices.Clone(conds), slices.Clone(orders)
		a, b := of(t, 100), of(t, 100)
		said, more := a.Conds(conds[:30]...), a.Tick(1100, orders[:30]...)
		if !slices.Equal(conds, conds2) || !slices.Equal(orders, orders2) {
			t.Fatal("the lists are other ones")
		}
		clear(conds[30:])
		clear(orders[30:])
		if got := b.Conds(conds[:30]...); !slices.Equal(got, said) {
			t.Fatalf("%v; want %v", got, said)
		}
		if got := b.Tick(1100, orders[:30]...); !slices.Equal(got, more) {
			t.Fatalf("%v; want %v", got, more)
		}
	}
}

// R4: lists that are changed behind the call change nothing; and what is answered is new memory: it may be changed, and added to, and neither what stands nor another answer changes.
func TestListsAreNotKept(t *testing.T) {
	x := noise(37)
	for range 30 {
		escape := x.escape()
		plain, spoilt := of(t, escape), of(t, escape)
		var lists, wants []outcome
		for _, d := range x.rowOf(escape, 400) {
			e := deed{slices.Clone(d.conds), d.at, slices.Clone(d.orders)}
			want, got := d.of(plain), e.of(spoilt)
			if !slices.Equal(got, want) {
				t.Fatalf("%+v: %v; want %v", d, got, want)
			}
			for i := range e.conds {
				e.conds[i] = api.Cond{Kind: 2, At: most, On: true}
			}
			for i := range e.orders {
				e.orders[i] = api.Order{At: most, Kind: 1, N: most}
			}
			lists, wants = append(lists, want), append(wants, slices.Clone(want))
			spoil(got)
		}
		for i := range lists {
			if !slices.Equal(lists[i], wants[i]) {
				t.Fatalf("answer %d: %v; want %v", i, lists[i], wants[i])
			}
			spoil(lists[i])
		}
	}
	// A clone's answers are its own, too.
	a := of(t, 100)
	b := a.Clone()
	all := []api.Cond{begins(1, 1), begins(2, 1), begins(3, 1)}
	first := a.Conds(all...)
	spoil(b.Conds(all...))
	if want := and(raised(1, 1), raised(2, 1), raised(3, 1)); !slices.Equal(first, want) {
		t.Errorf("%v; want %v", first, want)
	}
}

// spoil changes a list, and all that its room has.
func spoil(l outcome) {
	l = l[:cap(l)]
	for i := range l {
		l[i] = api.Out{Kind: 77, At: -5, Alarm: 9, N: -1}
	}
}

// R5: the same calls in the same order answer the same.
func TestSame(t *testing.T) {
	x := noise(41)
	for range 20 {
		escape := x.escape()
		row := x.rowOf(escape, 300)
		var first []outcome
		for round := range 3 {
			a := of(t, escape)
			for i, d := range row {
				got := d.of(a)
				if round == 0 {
					first = append(first, got)
				} else if !slices.Equal(got, first[i]) {
					t.Fatalf("round %d, %+v: %v; want %v", round, d, got, first[i])
				}
			}
		}
	}
}
