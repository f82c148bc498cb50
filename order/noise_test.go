package order_test

import (
	"systole/api"
)

// noise hands out numbers of all kinds, the same ones each time.
type noise uint64

// upTo is the next number, from 0 up to n - 1.
func (x *noise) upTo(n int64) int64 {
	if *x == 0 {
		*x = 88172645463325252
	}
	*x ^= *x << 13
	*x ^= *x >> 7
	*x ^= *x << 17
	return int64(uint64(*x) >> 11 % uint64(n))
}

// whole is a number of 64 bits, of any size and sign.
func (x *noise) whole() int64 {
	return (x.upTo(most)<<1 + x.upTo(2)) >> x.upTo(64)
}

// one is one of these numbers.
func (x *noise) one(l ...int64) int64 {
	return l[x.upTo(int64(len(l)))]
}

// right is an order that may be, for one of some samples from one on, as far as there are any.
func (x *noise) right(from, samples int64) api.Order {
	at := min(max(from, 0)+x.upTo(samples), maxAt)
	if x.upTo(2) == 0 {
		return ack(at)
	}
	return silence(at, x.one(1, 2, longest, 1+x.upTo(longest)))
}

// wrong is an order that may not be.
func (x *noise) wrong(at int64) api.Order {
	for {
		o := api.Order{
			At:   x.one(at, at, -1, maxAt+1, x.whole()),
			Kind: int(x.one(0, 1, 1, 2, 2, 3, x.whole())),
			N:    x.one(0, 1, -1, longest, longest+1, x.whole()),
		}
		if !may(o) {
			return o
		}
	}
}

// shuffle brings orders into another order.
func (x *noise) shuffle(l orders) {
	for i := range l {
		j := x.upTo(int64(i) + 1)
		l[i], l[j] = l[j], l[i]
	}
}

// deed is a Put of orders, or, if at has a number, a Due.
type deed struct {
	puts orders
	at   []int64
}

// flow is a row of deeds that goes on from sample to sample.
type flow struct {
	*noise
	at  int64
	row []deed
}

// rowOf is so many deeds.
func (x *noise) rowOf(many int) []deed {
	f := &flow{noise: x, at: x.one(-1, 0, 0, 1000, 1<<32, maxAt-x.upTo(200))}
	f.row = append(f.row, deed{at: []int64{f.at}})
	for len(f.row) < many {
		f.more()
	}
	return f.row[:many]
}

// more puts a deed behind the row, or some.
func (f *flow) more() {
	switch f.upTo(8) {
	case 0, 1, 2, 3:
		f.put(f.one(1, 1, 2, 3, 5, 9, 0))
	case 4, 5, 6:
		for range 1 + f.upTo(4) {
			f.due(f.at + f.one(1, 1, 1, 2, 3, f.upTo(12), 0, -1, -f.upTo(9)))
		}
	default:
		if f.upTo(30) == 0 {
			f.due(f.one(f.whole(), least, -2, -1, 0, f.at+50))
		}
		if f.upTo(12) == 0 {
			f.put(room + f.upTo(3))
		}
	}
}

// put puts a Put of so many orders behind the row, most of which may be, and are for samples that are near.
func (f *flow) put(many int64) {
	var l orders
	for range many {
		switch f.upTo(25) {
		case 0:
			l = append(l, f.wrong(f.at))
		case 1:
			l = append(l, f.right(f.at-f.upTo(4), 4))
		case 2:
			l = append(l, f.right(f.at, 5000))
		default:
			l = append(l, f.right(f.at+1, f.one(1, 4, 20)))
		}
	}
	f.row = append(f.row, deed{puts: l})
}

// due puts a Due behind the row. It goes on from there, but where that is far away.
func (f *flow) due(at int64) {
	f.row = append(f.row, deed{at: []int64{at}})
	if f.at < at && at < f.at+100 && at <= maxAt {
		f.at = at
	}
}
