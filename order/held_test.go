package order_test

import (
	"cmp"
	"slices"
	"testing"

	"systole/api"
	"systole/order"
)

// held is a queue beside what the chapter's words say of it: what waits, as it was put, and all numbers of which a Due was asked.
type held struct {
	q     *order.Queue
	waits orders
	asked []int64
}

// heldNew is a new queue, held.
func heldNew() *held {
	return &held{q: order.New()}
}

// from is From by the words.
func (h *held) from() int64 {
	var n int64
	for _, at := range h.asked {
		n = max(n, nextOf(at))
	}
	return n
}

// put is Put by the words.
func (h *held) put(l orders) (int, api.Errno) {
	for i, o := range l {
		switch {
		case !may(o):
			return i, api.ErrArg
		case o.At < h.from():
			return i, api.ErrPast
		case len(h.waits) >= room:
			return i, api.ErrFull
		}
		h.waits = append(h.waits, o)
	}
	return len(l), api.OK
}

// due is Due by the words.
func (h *held) due(at int64) orders {
	h.asked = append(h.asked, at)
	var l, left orders
	for _, o := range h.waits {
		if o.At <= at {
			l = append(l, o)
		} else {
			left = append(left, o)
		}
	}
	h.waits = left
	slices.SortStableFunc(l, func(a, b api.Order) int { return cmp.Compare(a.At, b.At) })
	return l
}

// does does a deed, looks at what is answered and at how it stands, and is what was answered.
func (h *held) does(t *testing.T, d deed) (api.Errno, orders) {
	t.Helper()
	if len(d.at) == 0 {
		many, e := h.put(d.puts)
		puts(t, h.q, many, e, d.puts...)
		h.look(t)
		return e, nil
	}
	want := h.due(d.at[0])
	dues(t, h.q, want, d.at[0])
	h.look(t)
	return api.OK, want
}

// look looks at how the queue stands.
func (h *held) look(t *testing.T) {
	t.Helper()
	is(t, h.q, len(h.waits), h.from())
}

// clone is a clone of the queue, with words of its own.
func (h *held) clone() *held {
	return &held{q: h.q.Clone(), waits: slices.Clone(h.waits), asked: slices.Clone(h.asked)}
}

// of does a deed with a queue that is not held.
func (d deed) of(q *order.Queue) (int, api.Errno, orders) {
	if len(d.at) > 0 {
		return 0, api.OK, q.Due(d.at[0])
	}
	n, e := q.Put(d.puts...)
	return n, e, nil
}
