package order_test

import (
	"slices"
	"testing"

	"systole/api"
	"systole/order"
)

// P24.2: a clone of a queue in each state answers the same, and from then on neither knows of what comes to the other.
func TestClone(t *testing.T) {
	for _, at := range []int64{least, -1, 0, 99, maxAt - 100} {
		from := nextOf(at)
		for _, many := range []int{0, 1, 2, 31, 32} {
			l := row(from, many)
			q := of(t, at, l...)
			b, c := q.Clone(), q.Clone()
			if b == nil || b == q || b == c {
				t.Fatal("a clone is not another one")
			}
			is(t, b, many, from)
			puts(t, b, 0, api.ErrArg, api.Order{})
			if from > 0 {
				puts(t, b, 0, api.ErrPast, ack(from-1))
			}
			if many < room {
				puts(t, b, 1, api.OK, ack(from))
				is(t, q, many, from)
				puts(t, q, 1, api.OK, silence(from+50, 77))
				dues(t, q, append(slices.Clone(l), silence(from+50, 77)), from+60)
				is(t, b, many+1, from)
				dues(t, b, inTurn(append(slices.Clone(l), ack(from))), from+60)
			} else {
				puts(t, b, 0, api.ErrFull, ack(from))
				dues(t, b, l[:5], from+4)
				puts(t, b, 1, api.OK, ack(from+70))
				puts(t, q, 0, api.ErrFull, ack(from))
				dues(t, q, l, from+60)
				dues(t, b, append(l[5:], ack(from+70)), maxAt)
			}
			is(t, c, many, from)
			dues(t, c, l, maxAt)
			is(t, q.Clone(), 0, from+61)
		}
	}
}

// P24.2: a clone of a new queue is as a new one; and a clone's clone is as good.
func TestCloneOfClone(t *testing.T) {
	q := order.New().Clone().Clone()
	is(t, q, 0, 0)
	puts(t, q, 2, api.OK, ack(5), ack(0))
	c := q.Clone().Clone()
	dues(t, c, orders{ack(0)}, 3)
	is(t, q, 2, 0)
	dues(t, c.Clone(), orders{ack(5)}, 5)
	is(t, c, 1, 4)
}

// P24.2: in the midst of long rows a clone goes its own way, held against words of its own, and so does what it was made of.
func TestCloneRows(t *testing.T) {
	x := noise(7)
	for range 20 {
		one := heldNew()
		for _, d := range x.rowOf(60) {
			one.does(t, d)
			two := one.clone()
			two.look(t)
			for _, e := range x.rowOf(12)[1:] {
				two.does(t, e)
				one.look(t)
			}
			two = one.clone()
			if x.upTo(2) == 0 {
				one, two = two, one
				two.look(t)
			}
		}
	}
}

// P24.2: two queues side by side know nothing of each other.
func TestTwo(t *testing.T) {
	x := noise(11)
	for range 50 {
		one, two, three := heldNew(), heldNew(), heldNew()
		first, second := x.rowOf(200), x.rowOf(200)
		for i := range first {
			one.does(t, first[i])
			two.does(t, second[i])
			if i%2 == 0 {
				three.does(t, first[i])
			}
			one.look(t)
		}
	}
	one, two := order.New(), order.New()
	puts(t, one, room, api.OK, row(5, room)...)
	is(t, two, 0, 0)
	puts(t, two, 1, api.OK, ack(9))
	dues(t, one, row(5, room), maxAt)
	is(t, two, 1, 0)
	dues(t, two, orders{ack(9)}, 9)
}
