package order_test

import (
	"testing"

	"systole/api"
	"systole/order"
)

// P24.2: a new queue has no orders, and is from 0 on; Due of anything is nothing, but From moves on.
func TestNew(t *testing.T) {
	q := order.New()
	if q == nil {
		t.Fatal("New is nil")
	}
	is(t, q, 0, 0)
	for _, at := range edges() {
		q := order.New()
		dues(t, q, nil, at)
		is(t, q, 0, nextOf(at))
	}
	q.Put(ack(5))
	is(t, order.New(), 0, 0)
}

// P24.2: a new queue takes the first sample and the last one.
func TestNewTakesAll(t *testing.T) {
	q := order.New()
	puts(t, q, 4, api.OK, ack(maxAt), ack(0), silence(maxAt, longest), silence(0, 1))
	is(t, q, 4, 0)
	dues(t, q, orders{ack(0), silence(0, 1)}, 0)
	dues(t, q, orders{ack(maxAt), silence(maxAt, longest)}, maxAt)
	is(t, q, 0, maxAt+1)
}

// P24.2, R6: each call of a queue that no call made, that is nil: 0 and ErrMade, nothing, 0, nil, whatever comes.
func TestNil(t *testing.T) {
	var q *order.Queue
	for range 2 {
		puts(t, q, 0, api.ErrMade)
		puts(t, q, 0, api.ErrMade, orders{}...)
		puts(t, q, 0, api.ErrMade, ack(5))
		puts(t, q, 0, api.ErrMade, ack(-1))
		puts(t, q, 0, api.ErrMade, api.Order{})
		puts(t, q, 0, api.ErrMade, ack(5), silence(0, 0), ack(maxAt))
		puts(t, q, 0, api.ErrMade, row(5, room+1)...)
		is(t, q, 0, 0)
		for _, at := range edges() {
			dues(t, q, nil, at)
			is(t, q, 0, 0)
		}
		if q.Clone() != nil || q != nil {
			t.Fatal("there is a queue")
		}
	}
}
