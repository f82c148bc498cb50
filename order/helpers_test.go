package order_test

import (
	"math"
	"slices"
	"testing"

	"systole/api"
	"systole/order"
)

const (
	most    = math.MaxInt64
	least   = math.MinInt64
	maxAt   = 1099511627776
	longest = 24000
	room    = 32
)

// orders are some of them.
type orders = []api.Order

func ack(at int64) api.Order        { return api.Order{At: at, Kind: 1} }
func silence(at, n int64) api.Order { return api.Order{At: at, Kind: 2, N: n} }

// may says whether an order may be.
func may(o api.Order) bool {
	if o.At < 0 || o.At > maxAt {
		return false
	}
	return o.Kind == 1 && o.N == 0 || o.Kind == 2 && o.N >= 1 && o.N <= longest
}

// nextOf is the sample behind a Due's, as it counts.
func nextOf(at int64) int64 {
	switch {
	case at < -1:
		return 0
	case at > maxAt:
		return maxAt + 1
	}
	return at + 1
}

// puts puts orders in one call, and looks at what is answered.
func puts(t *testing.T, q *order.Queue, many int, want api.Errno, l ...api.Order) {
	t.Helper()
	if n, e := q.Put(l...); n != many || e != want {
		t.Fatalf("Put of %v: %d, %d; want %d, %d", l, n, e, many, want)
	}
}

// dues looks at what is due.
func dues(t *testing.T, q *order.Queue, want orders, at int64) {
	t.Helper()
	if got := q.Due(at); !slices.Equal(got, want) {
		t.Fatalf("Due of %d: %v; want %v", at, got, want)
	}
}

// is looks at how many wait, and from where on, twice in a row.
func is(t *testing.T, q *order.Queue, many int, from int64) {
	t.Helper()
	for range 2 {
		if q.Len() != many || q.From() != from {
			t.Fatalf("Len %d, From %d; want %d, %d", q.Len(), q.From(), many, from)
		}
	}
}

// of is a new queue to which these orders were put, and of which a Due of at was asked ahead.
func of(t *testing.T, at int64, l ...api.Order) *order.Queue {
	t.Helper()
	q := order.New()
	dues(t, q, nil, at)
	puts(t, q, len(l), api.OK, l...)
	is(t, q, len(l), nextOf(at))
	return q
}

// row is so many orders for samples from one on, one each: all of them unlike.
func row(from int64, many int) orders {
	var l orders
	for i := range int64(many) {
		l = append(l, silence(from+i, 1+i))
	}
	return l
}

// edges are numbers at which something changes: signs, MaxAt, the longest silence, and the ends of ranges of bits, among them those whose lower bits are those of small numbers.
func edges() []int64 {
	l := []int64{0, 1, 2, 3, 9, 10, 11, 99, 100, 101, 6000, longest - 1, longest, longest + 1}
	for _, n := range []int64{0, 1, 2, 100, longest} {
		l = append(l, maxAt-n, maxAt+n)
	}
	for _, k := range []int{8, 15, 16, 31, 32, 39, 40, 41, 47, 48, 61, 62} {
		l = append(l, 1<<k-1, 1<<k, 1<<k+1, 1<<k+2, 1<<k+77)
	}
	l = append(l, most-1, most)
	for _, n := range l {
		l = append(l, -n)
	}
	return append(l, least, least+1, least+77)
}

// otherKinds are kinds of orders that there aren't.
func otherKinds() []int {
	l := []int{0, 3, 4, 5, 6, 7, 8, 100, math.MaxInt, math.MaxInt - 1, math.MinInt}
	for n := 1; n <= 3; n++ {
		l = append(l, -n, 1<<3+n, 1<<8+n, 1<<16+n, 1<<31+n, 1<<32+n, 1<<62+n, -1<<32+n, math.MinInt+n)
	}
	return l
}
