package alarm_test

import (
	"systole/api"
)

// noise hands out numbers of all kinds, the same ones each time.
type noise uint64

// upTo is the next number, from 0 up to n - 1.
func (x *noise) upTo(n int64) int64 {
	if *x == 0 {
		*x = 88172645463325252
	}
	*x ^= *x << 13
	*x ^= *x >> 7
	*x ^= *x << 17
	return int64(uint64(*x) >> 11 % uint64(n))
}

// whole is a number of 64 bits, of any size and sign.
func (x *noise) whole() int64 {
	return (x.upTo(most)<<1 + x.upTo(2)) >> x.upTo(64)
}

// one is one of these numbers.
func (x *noise) one(l ...int64) int64 {
	return l[x.upTo(int64(len(l)))]
}

// escape is one that may be.
func (x *noise) escape() int64 {
	return x.one(1, 2, 5, 20, 100, 2000, greatest, 1+x.upTo(400), 1+x.upTo(greatest))
}

// flow is a row of deeds that goes on from sample to sample.
type flow struct {
	*noise
	escape, at int64
	row        []deed
}

// rowOf is so many deeds for an alarm of an escape.
func (x *noise) rowOf(escape int64, many int) []deed {
	f := &flow{noise: x, escape: escape, at: x.one(0, 0, 1000, maxAt-x.upTo(9*escape))}
	for len(f.row) < many {
		f.more()
	}
	return f.row[:many]
}

// more puts a deed behind the row, or some.
func (f *flow) more() {
	switch f.upTo(8) {
	case 0, 1, 2:
		f.row = append(f.row, deed{conds: f.conds(f.one(1, 1, 1, 2, 3, 0, 9))})
	case 3, 4:
		for range 1 + f.upTo(4) {
			f.goOn()
			f.tick()
		}
	case 5:
		f.goOn()
		f.tick(f.orders(f.one(1, 1, 2, 3))...)
	case 6:
		// Of one kind alone, so that it stands for long, and is seen late.
		f.row = append(f.row, deed{conds: []api.Cond{f.cond()}})
		f.at += f.escape + f.upTo(3) - 1
		f.tick()
	default:
		f.at += f.one(1, 1, f.escape-1, f.escape, f.escape+1, longest)
		f.tick()
	}
}

// goOn goes on by some samples, or by none, or goes back.
func (f *flow) goOn() {
	f.at += f.one(1, 1, 1, 0, 2, f.upTo(30), f.escape/3, f.escape/2, -1, -f.upTo(50))
}

// tick puts a Tick behind the row, mostly where the row is.
func (f *flow) tick(l ...api.Order) {
	at := f.at
	if f.upTo(40) == 0 {
		at = f.whole()
	}
	f.row = append(f.row, deed{at: []int64{at}, orders: l})
}

// conds are so many conditions.
func (f *flow) conds(many int64) []api.Cond {
	var l []api.Cond
	for range many {
		l = append(l, f.cond())
	}
	return l
}

// cond is a condition that begins or ends, mostly where the row is.
func (f *flow) cond() api.Cond {
	return api.Cond{
		Kind: int(f.one(1, 2, 3, 4, 5, 1, 2, 3, 4, 5, 1, 2, 3, 4, 5, 0, 6, f.whole())),
		At:   f.one(f.at, f.at, f.at, f.at, f.at, f.at, f.at-1, f.at-f.upTo(40), f.at+f.upTo(40), f.whole()),
		On:   f.upTo(5) < 3,
	}
}

// orders are so many orders.
func (f *flow) orders(many int64) []api.Order {
	var l []api.Order
	for range many {
		l = append(l, api.Order{
			At:   f.one(0, f.at, f.whole()),
			Kind: int(f.one(1, 1, 1, 2, 2, 2, 0, 3, f.whole())),
			N:    f.one(1, 2, 1+f.upTo(60), 1+f.escape%longest, longest, longest+1, 0, -1, f.whole()),
		})
	}
	return l
}
