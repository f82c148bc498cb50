package model_test

import (
	"slices"
	"testing"

	"systole/api"
	"systole/model"
)

// flat is a thousand events of an even line, of which the asystole is raised at 300.
func flat() (api.Limits, events) {
	return asys(300), shown(0, even(5, 1000)...)
}

// P26.2, P26.3: an OrAck ahead of a raise, at it, and behind it: it acknowledges what stands at its sample, behind what that one's conditions raise.
func TestAck(t *testing.T) {
	l, e := flat()
	for _, at := range []int64{0, 1, 298, 299, 300, 301, 302, 500, 998, 999, 1000, 5000, maxAt} {
		want := raised(2, 300)
		switch {
		case at == 300:
			want = and(want, acked(2, 300))
		case at > 300 && at < 1000:
			want = and(want, loud(300), acked(2, at), still(at))
		default:
			want = and(want, loud(300))
		}
		alike(t, model.Run(l, orders{ack(at)}, e...), want)
	}
}

// P26.2, P26.3: an OrSilence ahead of a raise, at it, and behind it: the raise of an asystole ends one that was ahead of it.
func TestSilence(t *testing.T) {
	l, e := flat()
	for _, n := range []int64{1, 2, 100, 400, longest} {
		for _, at := range []int64{0, 1, 200, 298, 299, 300, 301, 302, 500, 999, 1000, maxAt} {
			want := and(raised(2, 300), loud(300))
			till := at + n
			switch {
			case at < 300:
				want = and(silent(at, n), want)
			case at == 300:
				want = and(raised(2, 300), silent(300, n))
				if till < 1000 {
					want = and(want, loud(till))
				}
			case at < 1000:
				want = and(want, silent(at, n), still(at))
				if till < 1000 {
					want = and(want, loud(till))
				}
			}
			alike(t, model.Run(l, orders{silence(at, n)}, e...), want)
		}
	}
}

// P26.2: a lead's alarm is silenced by what was ordered ahead of its raise: of those that end a silence it is none.
func TestSilenceAhead(t *testing.T) {
	e := hidden(0, 200)
	alike(t, model.Run(usual(), orders{silence(5, 100)}, e...), and(silent(5, 100), raised(1, 19), loud(105)))
	alike(t, model.Run(usual(), orders{silence(5, 14)}, e...), and(silent(5, 14), raised(1, 19), loud(19)))
	alike(t, model.Run(usual(), orders{silence(5, 15)}, e...), and(silent(5, 15), raised(1, 19), loud(20)))
	alike(t, model.Run(usual(), orders{silence(50, 100), ack(60)}, e...), and(raised(1, 19), loud(19), silent(50, 100), still(50), acked(1, 60)))
}

// P26.3: orders of the same sample come in the order of the list; those of others by rising samples, wherever they stand in the list.
func TestOrderOfOrders(t *testing.T) {
	l, e := flat()
	some := orders{silence(400, 50), ack(310), silence(400, 7), silence(20, 9), silence(400, 60), silence(20, 8), ack(400)}
	alike(t, model.Run(l, some, e...), and(
		silent(20, 9), silent(20, 8),
		raised(2, 300), loud(300),
		acked(2, 310), still(310),
		silent(400, 50), silent(400, 7), silent(400, 60),
	))
	slices.Reverse(some)
	alike(t, model.Run(l, some, e...), and(
		silent(20, 8), silent(20, 9),
		raised(2, 300), loud(300),
		acked(2, 310), still(310),
		silent(400, 60), silent(400, 7), silent(400, 50),
	))
	// The first of two that acknowledge does; a silence ahead of one, or behind it, says the same of itself.
	alike(t, model.Run(l, orders{silence(300, 40), ack(300), ack(300)}, e...), and(raised(2, 300), silent(300, 40), acked(2, 300)))
	alike(t, model.Run(l, orders{ack(300), silence(300, 40), ack(300)}, e...), and(raised(2, 300), acked(2, 300), silent(300, 40)))
}

// P26.3: where samples are left out, an order comes at the first one that is not ahead of its own, with that one's number; all that are due there by rising samples, and of the same one as the list has them.
func TestLeaps(t *testing.T) {
	e := slices.Concat(shown(10, 5, 5), shown(50, 5), hidden(100, 1), events{missing(120), {Kind: 9, At: 130}}, shown(200, 5))
	some := orders{silence(60, 1), silence(11, 2), silence(9, 3), silence(201, 4), silence(51, 5), silence(0, 6), silence(60, 7), silence(110, 8), silence(50, 9), silence(12, 10), silence(200, 11)}
	alike(t, model.Run(usual(), some, e...), and(
		silent(10, 6), silent(10, 3),
		silent(11, 2),
		silent(50, 10), silent(50, 9),
		silent(100, 5), silent(100, 1), silent(100, 7),
		silent(200, 8), silent(200, 11),
	))
	// Numbers that go back: each order comes once, at the first asking behind it.
	e = slices.Concat(shown(100, 5), shown(20, 5), shown(150, 5), shown(-3, 5), shown(0, 5), shown(maxAt+9, 5))
	alike(t, model.Run(usual(), orders{silence(160, 1), silence(30, 2), silence(0, 3), silence(120, 4), silence(maxAt, 5)}, e...), and(
		silent(100, 3), silent(100, 2), silent(150, 4),
		raised(2, maxAt), silent(maxAt, 1), silent(maxAt, 5),
	))
}

// P26.3: at samples below 0 nothing is due; at those beyond MaxAt all is.
func TestFarSamples(t *testing.T) {
	some := orders{silence(maxAt, 3), silence(0, 4), silence(5, 5)}
	alike(t, model.Run(usual(), some, append(shown(-3, 5, 5, 5), shown(least, 5)...)...), nil)
	alike(t, model.Run(usual(), some, shown(-1, 5, 5)...), silent(0, 4))
	for _, at := range []int64{maxAt, maxAt + 1, most} {
		alike(t, model.Run(usual(), some, seen(at, 5)), and(silent(maxAt, 4), silent(maxAt, 5), silent(maxAt, 3)))
	}
	alike(t, model.Run(usual(), some, seen(maxAt-1, 5)), and(silent(maxAt-1, 4), silent(maxAt-1, 5)))
}

// P26.3: orders that may not be play no part, wherever they stand, and those around them do.
func TestOrdersThatMayNotBe(t *testing.T) {
	l, e := flat()
	right := orders{silence(10, 30), ack(310), silence(320, longest)}
	want := model.Run(l, right, e...)
	if len(outsOf(want, 5, 8)) != 3 {
		t.Fatalf("%v", want)
	}
	wrong := orders{
		{}, {At: 300}, {At: 10, Kind: 3}, {At: 10, Kind: -1, N: 5}, {At: 10, Kind: 9}, {At: 300, Kind: 1<<32 + 1}, {At: 300, Kind: 1<<8 + 2, N: 5},
		{At: 300, Kind: 1, N: 1}, {At: 305, Kind: 1, N: -1}, {At: 305, Kind: 1, N: 100},
		{At: -1, Kind: 1}, {At: least, Kind: 1}, {At: maxAt + 1, Kind: 1}, {At: most, Kind: 1},
		silence(10, 0), silence(10, -1), silence(11, longest+1), silence(12, most), silence(12, 1<<32+5), silence(-1, 5), silence(least, 5), silence(maxAt+1, 5), silence(most, 5),
	}
	alike(t, model.Run(l, wrong, e...), model.Run(l, nil, e...))
	for i, o := range wrong {
		for at := range len(right) + 1 {
			alike(t, model.Run(l, slices.Insert(slices.Clone(right), at, o), e...), want)
		}
		alike(t, model.Run(l, wrong[i:i+1], e...), model.Run(l, nil, e...))
		alike(t, model.Run(l, slices.Concat(wrong[i:], right, wrong), e...), want)
		// With a sample at the end of all numbers, too.
		far := append(slices.Clip(e), seen(most, 5))
		alike(t, model.Run(l, wrong[i:i+1], far...), model.Run(l, nil, far...))
	}
}

// P26.3: there may be any number of orders, also for one sample: more than a queue has room for.
func TestManyOrders(t *testing.T) {
	var some orders
	var want outs
	for n := range int64(500) {
		some = append(some, silence(4, n+1))
		want = append(want, silent(4, n+1)...)
	}
	alike(t, model.Run(usual(), some, shown(0, even(5, 6)...)...), want)
	alike(t, model.Run(usual(), some, seen(9, 5))[499:], silent(9, 500))
	some, want = nil, nil
	for n := range int64(700) {
		some = append(some, silence(699-n, n+1))
		want = append(want, silent(n, 700-n)...)
	}
	alike(t, model.Run(usual(), some, shown(0, even(5, 700)...)...), want)
}

// P26.3: an order that is far behind, or far ahead, of all samples: at the first one, or never; and without samples nothing comes.
func TestFarOrders(t *testing.T) {
	e := shown(900000, even(5, 50)...)
	for _, at := range []int64{0, 1, 899999, 900000} {
		alike(t, model.Run(usual(), orders{silence(at, 7)}, e...), silent(900000, 7))
	}
	alike(t, model.Run(usual(), orders{silence(900001, 7)}, e...), silent(900001, 7))
	alike(t, model.Run(usual(), orders{silence(900049, 7)}, e...), silent(900049, 7))
	for _, at := range []int64{900050, 900051, maxAt} {
		alike(t, model.Run(usual(), orders{silence(at, 7)}, e...), nil)
	}
	alike(t, model.Run(usual(), orders{silence(0, 7)}), nil)
	alike(t, model.Run(usual(), orders{silence(0, 7)}, missing(0), missing(5), api.Event{Kind: 7, At: 9}), nil)
}

// P26.2: a judge takes what is due as it is told, whatever an order's own At is, and whether it may be or not; what alarms pass over says nothing.
func TestWhatDueSays(t *testing.T) {
	for _, at := range edges() {
		j := judge(t, quick())
		orderly(t, j, and(raised(1, 5), silent(6, 9), acked(1, 6), silent(6, 8)), orders{{At: at, Kind: 2, N: 9}, {At: at, Kind: 1, N: at}, {At: 0, Kind: 2, N: 8}, {At: at}, {At: at, Kind: 3, N: 5}, {At: at, Kind: 2, N: 0}, {At: at, Kind: 2, N: longest + 1}}, off(5), dark(6))
	}
}
