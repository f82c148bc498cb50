package order_test

import (
	"math"
	"strconv"
	"testing"

	"systole/api"
	"systole/order"
)

// lineIs looks at Check, Line and Read of an order that may be.
func lineIs(t *testing.T, o api.Order, want string) {
	t.Helper()
	if e := order.Check(o); e != api.OK {
		t.Errorf("Check of %v: %d", o, e)
	}
	if s, e := order.Line(o); s != want || e != api.OK {
		t.Errorf("Line of %v: %q, %d; want %q", o, s, e, want)
	}
	if got, e := order.Read(want); got != o || e != api.OK {
		t.Errorf("Read of %q: %v, %d; want %v", want, got, e, o)
	}
}

// noLine looks at Check and Line of an order that may not be, and that a queue does not take it.
func noLine(t *testing.T, o api.Order) {
	t.Helper()
	if e := order.Check(o); e != api.ErrArg {
		t.Errorf("Check of %v: %d", o, e)
	}
	if s, e := order.Line(o); s != "" || e != api.ErrArg {
		t.Errorf("Line of %v: %q, %d", o, s, e)
	}
	if n, e := order.New().Put(o); n != 0 || e != api.ErrArg {
		t.Errorf("Put of %v: %d, %d", o, n, e)
	}
}

// The chapter's example.
func TestExample(t *testing.T) {
	lineIs(t, api.Order{At: 400, Kind: api.OrSilence, N: 6000}, "400 silence 6000")
}

// P24.1: the kinds' numbers, the limits, and the errors, written out.
func TestNumbers(t *testing.T) {
	if got := [...]int64{api.OrAck, api.OrSilence, api.MaxQuiet, api.MaxAt, api.MaxOrders}; got != [...]int64{1, 2, longest, maxAt, room} {
		t.Errorf("kinds and limits: %v", got)
	}
	if got := [...]api.Errno{api.OK, api.ErrArg, api.ErrMade, api.ErrFull, api.ErrForm, api.ErrPast}; got != [...]api.Errno{0, 1, 2, 5, 8, 240} {
		t.Errorf("errors: %v", got)
	}
}

// P24.1: lines, written out, with each end of what may be.
func TestLinesWritten(t *testing.T) {
	lineIs(t, ack(0), "0 ack")
	lineIs(t, ack(1), "1 ack")
	lineIs(t, ack(10), "10 ack")
	lineIs(t, ack(maxAt-1), "1099511627775 ack")
	lineIs(t, ack(maxAt), "1099511627776 ack")
	lineIs(t, silence(0, 1), "0 silence 1")
	lineIs(t, silence(1, 1), "1 silence 1")
	lineIs(t, silence(0, longest), "0 silence 24000")
	lineIs(t, silence(1, longest-1), "1 silence 23999")
	lineIs(t, silence(maxAt, 1), "1099511627776 silence 1")
	lineIs(t, silence(maxAt, longest), "1099511627776 silence 24000")
}

// P24.1: what is just beyond each end, written out.
func TestNoLinesWritten(t *testing.T) {
	for _, o := range []api.Order{
		{}, {At: 5}, {At: 5, N: 5}, {Kind: 3}, {Kind: 3, N: 1}, {Kind: -1}, {Kind: -2, N: 1},
		ack(-1), ack(maxAt + 1), ack(most), ack(least),
		silence(-1, 1), silence(maxAt+1, 1), silence(most, 1), silence(least, 1), silence(most, longest),
		{Kind: 1, N: 1}, {Kind: 1, N: -1}, {Kind: 1, N: 50}, {Kind: 1, N: longest}, {Kind: 1, N: most}, {Kind: 1, N: least},
		silence(0, 0), silence(5, 0), silence(0, -1), silence(0, longest+1), silence(0, most), silence(0, least),
		{At: -1, Kind: 1, N: 1}, {At: -1, Kind: 2}, {At: -1, Kind: 7, N: -1},
	} {
		noLine(t, o)
	}
}

// seeLine looks at Check, Line and Read of an order, whether it may be or not.
func seeLine(t *testing.T, o api.Order) {
	t.Helper()
	switch {
	case !may(o):
		noLine(t, o)
	case o.Kind == 1:
		lineIs(t, o, strconv.FormatInt(o.At, 10)+" ack")
	default:
		lineIs(t, o, strconv.FormatInt(o.At, 10)+" silence "+strconv.FormatInt(o.N, 10))
	}
}

// P24.1, P24.3: each kind with each At and each N at which something changes: what may be has its line, and comes back from it.
func TestLinesAtEdges(t *testing.T) {
	for _, at := range edges() {
		for _, n := range edges() {
			for _, kind := range []int{1, 2, 0, 3, -1} {
				seeLine(t, api.Order{At: at, Kind: kind, N: n})
			}
		}
	}
}

// P24.1, P24.3: a silence of each length that may be, and of those beside.
func TestLinesOfEachLength(t *testing.T) {
	for n := int64(-5); n <= longest+5; n++ {
		seeLine(t, silence(n&1023, n))
	}
}

// P24.1: kinds that there aren't, also those whose lower bits are those of a kind that there is.
func TestOtherKinds(t *testing.T) {
	for _, kind := range otherKinds() {
		for _, at := range []int64{0, 5, maxAt} {
			for _, n := range []int64{0, 1, longest} {
				noLine(t, api.Order{At: at, Kind: kind, N: n})
			}
		}
	}
	noLine(t, api.Order{At: -1, Kind: math.MaxInt, N: -1})
}

// P24.1, P24.3: random orders, most of which may be.
func TestLinesOfNoise(t *testing.T) {
	var x noise
	for range 100000 {
		seeLine(t, x.right(x.one(0, 0, x.upTo(maxAt), maxAt-40), x.one(1, 100, 1+x.upTo(maxAt))))
		seeLine(t, x.wrong(x.upTo(maxAt)))
	}
}
