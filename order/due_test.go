package order_test

import (
	"cmp"
	"slices"
	"testing"

	"systole/api"
	"systole/order"
)

// P24.2: Due below all that wait, at each of them, between, and above all; what is due waits no more; From is one more than at.
func TestDue(t *testing.T) {
	for _, c := range []struct {
		at   int64
		many int
	}{{0, 0}, {8, 0}, {9, 0}, {10, 1}, {11, 1}, {19, 1}, {20, 2}, {21, 2}, {29, 2}, {30, 4}, {31, 4}, {39, 4}, {40, 5}, {41, 5}, {1000, 5}, {maxAt, 5}} {
		l := orders{ack(10), silence(20, 5), ack(30), silence(30, 6), ack(40)}
		q := of(t, -1, l...)
		dues(t, q, l[:c.many], c.at)
		is(t, q, 5-c.many, c.at+1)
		dues(t, q, nil, c.at)
		is(t, q, 5-c.many, c.at+1)
		dues(t, q, l[c.many:], maxAt)
		is(t, q, 0, maxAt+1)
	}
}

// P24.2: Due at all kinds of numbers: at counts as the nearest one from -1 to MaxAt; -1, and what is below, leaves From 0, and nothing is due there.
func TestDueAtEnds(t *testing.T) {
	for _, at := range append(edges(), -1, -2, maxAt-1, maxAt, maxAt+1) {
		l := orders{ack(0), silence(0, 7), ack(1), ack(100), ack(maxAt - 1), silence(maxAt, 9)}
		q := of(t, least, l...)
		var want orders
		for _, o := range l {
			if o.At <= at {
				want = append(want, o)
			}
		}
		dues(t, q, want, at)
		is(t, q, len(l)-len(want), nextOf(at))
	}
	q := of(t, -1, ack(0))
	for _, at := range []int64{-1, -2, -50, least, least + 1} {
		dues(t, q, nil, at)
		is(t, q, 1, 0)
	}
	puts(t, q, 1, api.OK, ack(0))
	for _, at := range []int64{maxAt, maxAt + 1, maxAt + 2, most, most - 1} {
		q := of(t, -1, ack(0), ack(maxAt))
		dues(t, q, orders{ack(0), ack(maxAt)}, at)
		is(t, q, 0, maxAt+1)
		dues(t, q, nil, most)
		is(t, q, 0, maxAt+1)
	}
}

// P24.2: From is never less than it was, and Due of an earlier at, or of the same one, tells nothing.
func TestDueAgain(t *testing.T) {
	for _, first := range []int64{0, 1, 50, 1 << 32, maxAt - 60, maxAt} {
		waits := min(first+50, maxAt)
		for _, second := range append(edges(), first-1, first, first-50) {
			if second > first {
				continue
			}
			q := of(t, -1, ack(first))
			if waits > first {
				puts(t, q, 1, api.OK, ack(waits))
			}
			many := q.Len() - 1
			dues(t, q, orders{ack(first)}, first)
			is(t, q, many, first+1)
			dues(t, q, nil, second)
			is(t, q, many, first+1)
			puts(t, q, 0, api.ErrPast, ack(first))
			if waits > first {
				puts(t, q, 1, api.OK, silence(first+1, 3))
				dues(t, q, orders{silence(first+1, 3), ack(waits)}, waits)
			}
		}
	}
}

// P24.2: behind Due of MaxAt, or of what is beyond, each order that may be has passed.
func TestDueOfTheLast(t *testing.T) {
	for _, at := range []int64{maxAt, maxAt + 1, most} {
		q := of(t, at)
		for _, n := range edges() {
			for _, o := range []api.Order{ack(n), silence(n, 1), silence(n, longest)} {
				want := api.ErrPast
				if !may(o) {
					want = api.ErrArg
				}
				puts(t, q, 0, want, o)
			}
		}
		is(t, q, 0, maxAt+1)
	}
}

// P24.2: Due of a number just ahead of the last one leaves the last one.
func TestDueOfTheLastButOne(t *testing.T) {
	q := of(t, maxAt-1)
	puts(t, q, 0, api.ErrPast, ack(maxAt-1))
	puts(t, q, 1, api.OK, ack(maxAt))
	dues(t, q, nil, maxAt-1)
	dues(t, q, orders{ack(maxAt)}, most)
}

// inTurn is how these orders, put in this order, are due.
func inTurn(l orders) orders {
	l = slices.Clone(l)
	slices.SortStableFunc(l, func(a, b api.Order) int { return cmp.Compare(a.At, b.At) })
	return l
}

// P24.2: by rising At, in whichever order they were put: each order of five of them, in one call, and in several.
func TestDueRising(t *testing.T) {
	var walk func(l, left orders)
	walk = func(l, left orders) {
		for i := range left {
			walk(append(slices.Clip(l), left[i]), slices.Delete(slices.Clone(left), i, i+1))
		}
		if len(left) > 0 {
			return
		}
		want := orders{ack(1), ack(2), silence(3, 3), ack(40), ack(500)}
		q := of(t, -1, l...)
		dues(t, q, want, 500)
		q = order.New()
		for _, o := range l {
			puts(t, q, 1, api.OK, o)
		}
		dues(t, q, want[:3], 39)
		dues(t, q, want[3:], 500)
	}
	walk(nil, orders{ack(1), ack(2), silence(3, 3), ack(40), ack(500)})
}

// P24.2: of the same At in the order in which they were put, over calls of Put, and over what waits from earlier.
func TestDueOfSameAt(t *testing.T) {
	q := order.New()
	puts(t, q, 3, api.OK, silence(50, 1), silence(50, 2), silence(10, 3))
	puts(t, q, 3, api.OK, silence(50, 4), silence(40, 5), silence(60, 6))
	dues(t, q, orders{silence(10, 3)}, 20)
	puts(t, q, 4, api.OK, silence(60, 7), silence(50, 8), silence(40, 9), ack(50))
	is(t, q, 9, 21)
	dues(t, q, orders{silence(40, 5), silence(40, 9)}, 49)
	puts(t, q, 2, api.OK, silence(60, 10), silence(50, 11))
	dues(t, q, orders{silence(50, 1), silence(50, 2), silence(50, 4), silence(50, 8), ack(50), silence(50, 11)}, 55)
	puts(t, q, 1, api.OK, silence(60, 12))
	dues(t, q, orders{silence(60, 6), silence(60, 7), silence(60, 10), silence(60, 12)}, 60)
	is(t, q, 0, 61)
}

// P24.2: all 32 of one At, or of two, or of three, by turns: neither their kinds nor their N play a part.
func TestDueOfFewAts(t *testing.T) {
	x := noise(2)
	for _, ats := range []int64{1, 2, 3, 5, 31} {
		for range 300 {
			var l orders
			for range room {
				l = append(l, x.right(700, ats))
			}
			q := of(t, 699, l...)
			dues(t, q, inTurn(l), 700+ats)

			q = of(t, 699)
			for left := l; len(left) > 0; {
				part := left[:1+x.upTo(int64(len(left)))]
				puts(t, q, len(part), api.OK, part...)
				left = left[len(part):]
			}
			want := inTurn(l)
			for at := int64(700); at < 700+ats; at++ {
				n := slices.IndexFunc(want, func(o api.Order) bool { return o.At > at })
				if n < 0 {
					n = len(want)
				}
				dues(t, q, want[:n], at)
				want = want[n:]
			}
			is(t, q, 0, 700+ats)
		}
	}
}
