package lead_test

import (
	"math"
	"slices"
	"testing"

	"systole/api"
	"systole/lead"
)

// gap is an event of missing samples.
func gap(at int64) api.Event {
	return api.Event{Kind: 1, At: at}
}

// sample is the event of a sample, whose value is of either sign and no other one's.
func sample(at int64, off bool) api.Event {
	return api.Event{Kind: 2, At: at, Sample: api.Sample{V: value(at), Off: off}}
}

// value is the value of a sample of that number: never 0, so that one that is left out is seen.
func value(at int64) int32 {
	if at%2 == 0 {
		return int32(at) + 1
	}
	return -int32(at) - 1
}

// came are events, numbered as they come: of n above 0 so many samples without Off, of n below 0 so many with, of 0 a gap.
func came(l ...int) []api.Event {
	var events []api.Event
	at := int64(0)
	for _, n := range l {
		if n == 0 {
			events = append(events, gap(at))
		}
		for range max(n, -n) {
			events = append(events, sample(at, n < 0))
			at++
		}
	}
	return events
}

// stretch is how long the run is whose last sample is the last of these events: it's looked for by going back.
func stretch(l []api.Event) int {
	last := l[len(l)-1]
	many := 0
	for i := len(l) - 1; i >= 0; i-- {
		switch {
		case l[i].Kind == 1 || l[i].Kind == 2 && l[i].Off != last.Off:
			return many
		case l[i].Kind == 2:
			many++
		}
	}
	return many
}

// said is what is to be said of these events, one list each: at each sample all that came is looked at anew.
func said(l []api.Event) [][]api.Item {
	var items [][]api.Item
	on := true
	for i, e := range l {
		var of []api.Item
		switch e.Kind {
		case 1:
			of = append(of, api.Item{Kind: 1, At: e.At})
		case 2:
			many := stretch(l[:i+1])
			if on && e.Off && many >= 20 {
				on = false
				of = append(of, api.Item{Kind: 2, At: e.At})
			}
			if !on && !e.Off && many >= 100 {
				on = true
				of = append(of, api.Item{Kind: 3, At: e.At})
			}
			if on {
				of = append(of, api.Item{Kind: 4, At: e.At, V: e.V})
			} else {
				of = append(of, api.Item{Kind: 5, At: e.At})
			}
		}
		items = append(items, of)
	}
	return items
}

// turned are the items by which a lead goes off or comes on.
func turned(l []api.Item) []api.Item {
	return slices.DeleteFunc(slices.Clone(l), func(i api.Item) bool { return i.Kind != 2 && i.Kind != 3 })
}

// onBehind is what On should say behind these items of a lead that was as told ahead of them.
func onBehind(ahead bool, l []api.Item) bool {
	if l = turned(l); len(l) > 0 {
		return l[len(l)-1].Kind == 3
	}
	return ahead
}

// few is of a long list its last items alone, for a message that can be read.
func few(l []api.Item) []api.Item {
	return l[max(0, len(l)-8):]
}

// answers pushes some events, and looks at what is answered, and at On.
func answers(t *testing.T, x *lead.Lead, l []api.Event, want ...api.Item) {
	t.Helper()
	on := onBehind(x.On(), want)
	if got := x.Push(l...); !slices.Equal(got, want) {
		t.Fatalf("Push of %d events: %d items, at last %v; want %d, at last %v", len(l), len(got), few(got), len(want), few(want))
	}
	if x.On() != on {
		t.Fatalf("On behind %d events, of which at last was said %v: %v", len(l), few(want), !on)
	}
}

// row is a row of events, and what is to be said of each.
type row struct {
	l    []api.Event
	said [][]api.Item
}

// rowOf is the row of these events.
func rowOf(l []api.Event) *row {
	return &row{l, said(l)}
}

// goesOn pushes the events from one place up to another one.
func (r *row) goesOn(t *testing.T, x *lead.Lead, from, to int) {
	t.Helper()
	answers(t, x, r.l[from:to], slices.Concat(r.said[from:to]...)...)
}

// isPushed pushes the events to a new lead, cut at these places, which stand in order.
func (r *row) isPushed(t *testing.T, cuts ...int) {
	t.Helper()
	x := lead.New()
	at := 0
	for _, to := range append(cuts, len(r.l)) {
		r.goesOn(t, x, at, to)
		at = to
	}
}

// holds looks at what is said of the events all at once, in one piece, and event by event.
func (r *row) holds(t *testing.T) {
	t.Helper()
	if got, want := lead.Items(r.l...), slices.Concat(r.said...); !slices.Equal(got, want) {
		t.Fatalf("Items of %d events: %d items, at last %v; want %d, at last %v", len(r.l), len(got), few(got), len(want), few(want))
	}
	r.isPushed(t)
	var cuts []int
	for at := range r.l {
		cuts = append(cuts, at)
	}
	r.isPushed(t, cuts...)
}

// noise hands out numbers of all kinds, the same ones each time.
type noise uint64

// upTo is the next number, from 0 up to n - 1.
func (x *noise) upTo(n int) int {
	if *x == 0 {
		*x = 88172645463325252
	}
	*x ^= *x << 13
	*x ^= *x >> 7
	*x ^= *x << 17
	return int(uint64(*x) >> 11 % uint64(n))
}

// whole is the next number of 64 bits, of any size and sign.
func (x *noise) whole() int64 {
	return int64(x.upTo(math.MaxInt)<<1+x.upTo(2)) >> x.upTo(64)
}

// cuts are places in a row of so many events, in order, from each one on to the next at most far; some of them are the same, so that pieces have no event.
func (x *noise) cuts(size, far int) []int {
	var l []int
	for at := 0; at <= size; at += x.upTo(far + 1) {
		l = append(l, at)
	}
	return l
}

// events are so many runs, often of just about as many samples as turn a lead, with gaps and events of other kinds among them, and with any numbers and values.
func (x *noise) events(runs int) []api.Event {
	kinds := strange()
	off := false
	var l []api.Event
	for range runs {
		for range []int{1, x.upTo(30), 18 + x.upTo(5), 98 + x.upTo(5)}[x.upTo(4)] {
			l = append(l, x.event(2, off))
			if x.upTo(40) == 0 {
				l = append(l, x.event(kinds[x.upTo(len(kinds))], x.upTo(2) == 0))
			}
		}
		if x.upTo(4) == 0 {
			l = append(l, x.event(1, x.upTo(2) == 0))
		}
		off = off != (x.upTo(4) > 0)
	}
	return l
}

// event is an event of that kind, with any number and value.
func (x *noise) event(kind int, off bool) api.Event {
	return api.Event{Kind: kind, At: x.whole(), Sample: api.Sample{V: int32(x.whole()), Off: off}}
}

// strange are kinds that no event has, those of items among them, and numbers whose last bits are those of an event's kind.
func strange() []int {
	return []int{
		0, 3, 4, 5, 6, 7, 17, 18, 255, 256, 257, 258, 65537, 65538,
		-1, -2, -3, -254, -255, -65534, -65535,
		math.MaxInt, math.MaxInt - 1, math.MaxInt/2 + 2, math.MaxInt/2 + 3,
		math.MinInt, math.MinInt + 1, math.MinInt + 2, math.MinInt/2 + 1, math.MinInt/2 + 2,
	}
}

// rows are short rows of events of all kinds that the chapter tells apart, around the numbers of samples by which a lead turns.
func rows() [][]api.Event {
	l := [][]api.Event{nil, came(0), came(0, 0, 0), came(1), came(-1), came(-20, 0, 0, 1)}
	for _, n := range []int{1, 2, 18, 19, 20, 21, 22, 40, 41, 100, 130} {
		l = append(l,
			came(-n),
			came(1, -n, 1),
			came(0, -n, 0),
			came(-n, 0, -n),
			came(-n, 1, -n),
			came(-n, 0, -(20-min(n, 19)), 5),
		)
	}
	for _, n := range []int{1, 2, 19, 20, 21, 98, 99, 100, 101, 102, 200, 230} {
		l = append(l,
			came(n, -20),
			came(-20, n, -1),
			came(-21, 0, n, 0),
			came(-20, n, 0, n),
			came(-20, n, -1, n),
			came(-30, n, -20, n, 0, 5),
			came(-20, n, 0, 100-min(n, 99), -30),
		)
	}
	return l
}
