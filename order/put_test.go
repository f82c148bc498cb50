package order_test

import (
	"slices"
	"testing"

	"systole/api"
	"systole/order"
)

// P24.2: Put of none, of one, and of many, that all wait.
func TestPut(t *testing.T) {
	q := order.New()
	puts(t, q, 0, api.OK)
	puts(t, q, 0, api.OK, orders{}...)
	is(t, q, 0, 0)
	puts(t, q, 1, api.OK, ack(5))
	is(t, q, 1, 0)
	puts(t, q, 0, api.OK)
	puts(t, q, 3, api.OK, silence(5, 9), ack(4), silence(6, 1))
	is(t, q, 4, 0)
	dues(t, q, orders{ack(4), ack(5), silence(5, 9), silence(6, 1)}, 6)
	is(t, q, 0, 7)
}

// fault is an order that a queue refuses: which error, and how the queue is.
type fault struct {
	name string
	want api.Errno
	bad  api.Order
	// The queue is from 100 on, and has so many orders.
	many int
}

// faults are orders that are refused: each error alone, and where several hold the one that is told.
func faults() []fault {
	past := []api.Order{ack(0), ack(50), ack(99), silence(0, 1), silence(99, longest)}
	late := []api.Order{ack(100), ack(101), ack(120), ack(maxAt), silence(100, 1), silence(5000, longest)}
	wrong := []api.Order{{}, {At: 200}, {At: 200, Kind: 1, N: 1}, {At: 200, Kind: 2}, {At: 200, Kind: 2, N: longest + 1}, {At: 200, Kind: 3}, {At: 200, Kind: -1}, {At: maxAt + 1, Kind: 1}, {At: most, Kind: 2, N: 1}}
	both := []api.Order{{At: 50}, {At: 99, Kind: 1, N: 1}, {At: 99, Kind: 2}, {At: 0, Kind: 2, N: longest + 1}, {At: 50, Kind: 3}, {At: -1, Kind: 1}, {At: -1, Kind: 2, N: 1}, {At: least, Kind: 1}}
	var l []fault
	for _, many := range []int{0, 1, 20} {
		for _, o := range past {
			l = append(l, fault{"past", api.ErrPast, o, many})
		}
		for _, o := range wrong {
			l = append(l, fault{"wrong", api.ErrArg, o, many})
		}
		for _, o := range both {
			l = append(l, fault{"wrong and past", api.ErrArg, o, many})
		}
	}
	for _, o := range late {
		l = append(l, fault{"full", api.ErrFull, o, room})
	}
	for _, o := range past {
		l = append(l, fault{"past and full", api.ErrPast, o, room})
	}
	for _, o := range wrong {
		l = append(l, fault{"wrong and full", api.ErrArg, o, room})
	}
	for _, o := range both {
		l = append(l, fault{"wrong, past and full", api.ErrArg, o, room})
	}
	return l
}

// P24.2: an order that is refused, alone, and ahead of others: the error that holds of it, the first named one of several; none of them waits.
func TestPutRefusedFirst(t *testing.T) {
	for _, f := range faults() {
		waits := row(100, f.many)
		q := of(t, 99, waits...)
		puts(t, q, 0, f.want, f.bad)
		puts(t, q, 0, f.want, f.bad, ack(150), ack(151))
		puts(t, q, 0, f.want, f.bad, ack(150), api.Order{}, ack(5))
		puts(t, q, 0, f.want, f.bad, f.bad)
		is(t, q, f.many, 100)
		dues(t, q, waits, maxAt)
	}
}

// P24.2: an order that is refused amid others, and behind them: those ahead wait, those behind don't.
func TestPutRefusedAmid(t *testing.T) {
	for _, f := range faults() {
		if f.many == room {
			continue
		}
		for _, ahead := range []int{1, 2, 5, room - f.many} {
			for _, behind := range []int{0, 1, 4, 40} {
				waits, more := row(100, f.many), row(150, ahead)
				q := of(t, 99, waits...)
				puts(t, q, ahead, f.want, slices.Concat(more, orders{f.bad}, row(200, behind))...)
				is(t, q, f.many+ahead, 100)
				dues(t, q, slices.Concat(waits, more), maxAt)
			}
		}
	}
}

// P24.2: of orders that are refused the first one in the list is told, whichever error it has.
func TestPutFirstOfTwo(t *testing.T) {
	kinds := []struct {
		bad  api.Order
		want api.Errno
	}{{ack(99), api.ErrPast}, {ack(-1), api.ErrArg}, {silence(100, 0), api.ErrArg}, {ack(5), api.ErrPast}}
	for _, first := range kinds {
		for _, second := range kinds {
			q := of(t, 99)
			puts(t, q, 0, first.want, first.bad, second.bad)
			puts(t, q, 1, first.want, ack(100), first.bad, second.bad)
			puts(t, q, 1, first.want, ack(101), first.bad, ack(102), second.bad)
			is(t, q, 2, 100)
		}
	}
	// There is room up to just where the order is refused: its own error is told, though there is none behind it.
	q := of(t, 99)
	puts(t, q, room, api.ErrPast, append(row(100, room), ack(99), ack(100))...)
	q = of(t, 99)
	puts(t, q, room, api.ErrArg, append(row(100, room), silence(99, 0), ack(100))...)
	q = of(t, 99)
	puts(t, q, room, api.ErrFull, append(row(100, room), ack(100), ack(99))...)
}

// P24.2: an order for the sample ahead of From, for From, and for the one behind.
func TestPutAroundFrom(t *testing.T) {
	for _, from := range []int64{1, 2, 100, 1 << 32, maxAt - 1, maxAt} {
		q := of(t, from-1)
		puts(t, q, 0, api.ErrPast, ack(from-1))
		puts(t, q, 0, api.ErrPast, silence(from-1, 5))
		is(t, q, 0, from)
		puts(t, q, 2, api.OK, ack(from), silence(from, 5))
		if from < maxAt {
			puts(t, q, 2, api.OK, ack(from+1), silence(from+1, 5))
		} else {
			puts(t, q, 0, api.ErrArg, ack(from+1))
		}
		puts(t, q, 0, api.ErrPast, ack(0))
	}
	// From 0 on none has passed.
	q := of(t, -1)
	puts(t, q, 0, api.ErrArg, ack(-1))
	puts(t, q, 2, api.OK, ack(0), ack(1))
}

// P24.2: what waits may be put for whichever sample that has not passed, ahead of others that wait too, and is not refused for what waits.
func TestPutAheadOfOthers(t *testing.T) {
	q := of(t, 9)
	puts(t, q, 1, api.OK, ack(5000))
	for at := int64(40); at >= 10; at-- {
		puts(t, q, 1, api.OK, ack(at))
	}
	is(t, q, room, 10)
	for at := int64(10); at <= 40; at++ {
		dues(t, q, orders{ack(at)}, at)
	}
	is(t, q, 1, 41)
}

// P24.2: 31, 32 and 33 orders, in one call, and in several: 32 wait.
func TestRoom(t *testing.T) {
	for _, many := range []int{room - 1, room, room + 1, room + 2, 100, 1000} {
		l := row(7, many)
		waits := min(many, room)
		want := api.OK
		if many > room {
			want = api.ErrFull
		}
		q := order.New()
		puts(t, q, waits, want, l...)
		is(t, q, waits, 0)
		dues(t, q, l[:waits], maxAt)

		// One by one.
		q = order.New()
		for i, o := range l {
			if i < room {
				puts(t, q, 1, api.OK, o)
			} else {
				puts(t, q, 0, api.ErrFull, o)
			}
			is(t, q, min(i+1, room), 0)
		}
		dues(t, q, l[:waits], maxAt)

		// In two calls.
		for part := range waits + 1 {
			q = order.New()
			puts(t, q, part, api.OK, l[:part]...)
			puts(t, q, waits-part, want, l[part:]...)
			is(t, q, waits, 0)
			dues(t, q, l[:waits], maxAt)
		}
	}
}

// P24.2: a queue that is full takes none, but Put of none is right; it has room again for as many as were due.
func TestRoomAgain(t *testing.T) {
	for _, gone := range []int64{0, 1, 2, 16, 31, 32} {
		q := of(t, -1, row(100, room)...)
		puts(t, q, 0, api.OK)
		puts(t, q, 0, api.ErrFull, ack(5000))
		puts(t, q, 0, api.ErrFull, ack(0))
		dues(t, q, row(100, int(gone)), 99+gone)
		is(t, q, room-int(gone), 100+gone)
		more := row(2000, room)
		puts(t, q, int(gone), api.OK, more[:gone]...)
		puts(t, q, 0, api.ErrFull, ack(5000), ack(5001))
		is(t, q, room, 100+gone)
		dues(t, q, append(row(100, room)[gone:], more[:gone]...), maxAt)
		puts(t, q, 0, api.ErrPast, ack(maxAt))
	}
	// Over and over, as many as there is room for.
	q := order.New()
	for n := range int64(100) {
		puts(t, q, room, api.ErrFull, row(100*n, room+1)...)
		dues(t, q, row(100*n, room), 100*n+99)
	}
	is(t, q, 0, 10000)
}

// P24.2: what was refused for want of room does not wait, and may be put again.
func TestRefusedAgain(t *testing.T) {
	q := of(t, -1, row(10, room)...)
	puts(t, q, 0, api.ErrFull, ack(5))
	dues(t, q, row(10, 1), 10)
	puts(t, q, 1, api.OK, ack(50))
	dues(t, q, append(row(10, room)[1:], ack(50)), 100)
}

// P24.2: the same order put twice, or as often as there is room, waits as often.
func TestPutTwice(t *testing.T) {
	for _, o := range []api.Order{ack(5), silence(5, 9), ack(0), ack(maxAt)} {
		for _, many := range []int{2, 3, room} {
			l := slices.Repeat(orders{o}, many)
			q := of(t, -1, l...)
			dues(t, q, nil, o.At-1)
			dues(t, q, l, o.At)
			dues(t, q, nil, o.At)
			is(t, q, 0, o.At+1)

			q = order.New()
			for range many {
				puts(t, q, 1, api.OK, o)
			}
			is(t, q, many, 0)
			dues(t, q, l, maxAt)
		}
	}
}
