package order_test

import (
	"slices"
	"testing"

	"systole/api"
	"systole/order"
)

// P24.2: long rows of random Puts, Dues and Clones, held against the chapter's words; and that each answer came often enough to say something.
func TestRows(t *testing.T) {
	var x noise
	said := map[api.Errno]int{}
	lists := map[int]int{}
	for range 300 {
		h := heldNew()
		for _, d := range x.rowOf(500) {
			if x.upTo(20) == 0 {
				h = h.clone()
			}
			e, l := h.does(t, d)
			said[e]++
			lists[min(len(l), 5)]++
		}
	}
	for _, e := range []api.Errno{api.OK, api.ErrArg, api.ErrPast, api.ErrFull} {
		if said[e] < 1000 {
			t.Errorf("error %d: %d times", e, said[e])
		}
	}
	for n := range 6 {
		if lists[n] < 1000 {
			t.Errorf("%d due: %d times", n, lists[n])
		}
	}
	if len(said) != 4 {
		t.Errorf("errors: %v", said)
	}
}

// life is what became of an order: when it was put, and when it was due, by the number of the deed (0: not).
type life struct {
	o        api.Order
	put, due int
}

// P24.4: each order that was put is due once, at the first Due behind its Put that is not below its At; nothing else is due.
func TestOnce(t *testing.T) {
	x := noise(17)
	gone := 0
	for range 300 {
		q := order.New()
		var lives []life
		for n, d := range x.rowOf(400) {
			n++
			many, _, l := d.of(q)
			for _, o := range d.puts[:many] {
				lives = append(lives, life{o: o, put: n})
			}
			if len(d.at) == 0 {
				continue
			}
			for _, o := range l {
				// Of orders that are alike, the first one.
				i := slices.IndexFunc(lives, func(y life) bool { return y.o == o && y.due == 0 })
				if i < 0 || o.At > d.at[0] {
					t.Fatalf("Due of %d: %v, which does not wait", d.at[0], o)
				}
				lives[i].due = n
				gone++
			}
			waits := 0
			for _, y := range lives {
				if y.due == 0 && y.o.At <= d.at[0] {
					t.Fatalf("Due of %d: %v stays", d.at[0], y.o)
				}
				if y.due == 0 {
					waits++
				}
			}
			if q.Len() != waits {
				t.Fatalf("Len: %d; want %d", q.Len(), waits)
			}
		}
	}
	if gone < 50000 {
		t.Errorf("%d were due", gone)
	}
}

// unlike is so many orders, all for unlike samples from one on, by rising ones.
func (x *noise) unlike(from int64, many int) orders {
	var l orders
	for range many {
		from += x.one(1, 1, 2, 5, 30)
		l = append(l, x.right(from, 1))
	}
	return l
}

// whenever asks a queue for what is due at each sample, and puts each of these orders at the Due of its when, ahead of it, in random parts: what was due, sample by sample.
func (x *noise) whenever(t *testing.T, l orders, when map[int64]orders, till int64) []orders {
	t.Helper()
	q := order.New()
	var due []orders
	for at := int64(0); at <= till; at++ {
		for now := when[at]; len(now) > 0; {
			part := now[:1+x.upTo(int64(len(now)))]
			puts(t, q, len(part), api.OK, part...)
			now = now[len(part):]
		}
		due = append(due, q.Due(at))
	}
	is(t, q, 0, till+1)
	return due
}

// P24.5: orders for unlike samples that are put early or late, in whichever order, and in whichever parts, but ahead of their samples, are due alike.
func TestWhenever(t *testing.T) {
	x := noise(19)
	for range 200 {
		l := x.unlike(x.upTo(3), 1+int(x.upTo(room)))
		till := l[len(l)-1].At + x.upTo(5)
		// All at once, ahead of all samples.
		want := x.whenever(t, l, map[int64]orders{0: l}, till)
		for at, due := range want {
			n := slices.IndexFunc(l, func(o api.Order) bool { return o.At == int64(at) })
			if n < 0 && len(due) > 0 || n >= 0 && !slices.Equal(due, l[n:n+1]) {
				t.Fatalf("Due of %d: %v", at, due)
			}
		}
		for round := range 6 {
			mixed := slices.Clone(l)
			if round > 0 {
				x.shuffle(mixed)
			}
			when := map[int64]orders{}
			for _, o := range mixed {
				at := x.upTo(o.At + 1)
				switch round {
				case 2:
					// As late as may be.
					at = o.At
				case 3:
					at = max(0, o.At-x.upTo(3))
				}
				when[at] = append(when[at], o)
			}
			got := x.whenever(t, l, when, till)
			for at := range want {
				if !slices.Equal(got[at], want[at]) {
					t.Fatalf("round %d, Due of %d: %v; want %v", round, at, got[at], want[at])
				}
			}
		}
	}
}

// P24.4, P24.5: where a Due passes several samples, all of them up to there are due at it, as if asked one by one.
func TestLeaps(t *testing.T) {
	x := noise(23)
	for range 500 {
		l := x.unlike(x.upTo(50), 1+int(x.upTo(room)))
		mixed := slices.Clone(l)
		x.shuffle(mixed)
		q := order.New()
		puts(t, q, len(l), api.OK, mixed...)
		var due orders
		for at := int64(0); q.Len() > 0; at += 1 + x.upTo(60) {
			now := q.Due(at)
			for _, o := range now {
				if o.At > at {
					t.Fatalf("Due of %d: %v", at, o)
				}
			}
			due = append(due, now...)
		}
		if !slices.Equal(due, l) {
			t.Fatalf("%v; want %v", due, l)
		}
	}
}
