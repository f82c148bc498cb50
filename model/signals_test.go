package model_test

import "systole/api"

// pulses are so many samples, in which triangular pulses of a height and a half width have their apexes each so many samples, the first one behind the first half of that.
func pulses(many int, height int32, half, each int) []int32 {
	var l []int32
	for i := range many {
		l = append(l, pulse(height, half, i%each-each/2))
	}
	return l
}

// pulse is a pulse's value so far from its apex.
func pulse(height int32, half, far int) int32 {
	near := int64(half - max(far, -far))
	if near < 0 {
		return 0
	}
	return int32(int64(height) * near / int64(half))
}

// swings are so many samples of a triangular wave around 0, as high as that on either side, each wave so many samples, a multiple of 4.
func swings(many int, height int32, each int) []int32 {
	var l []int32
	for i := range many {
		q := each / 4
		at := i % each
		switch {
		case at < q:
		case at < 3*q:
			at = 2*q - at
		default:
			at -= 4 * q
		}
		l = append(l, int32(int64(height)*int64(at)/int64(q)))
	}
	return l
}

// noise hands out numbers of all kinds, the same ones each time.
type noise uint64

// upTo is the next number, from 0 up to n - 1.
func (x *noise) upTo(n int64) int64 {
	if *x == 0 {
		*x = 88172645463325252
	}
	*x ^= *x << 13
	*x ^= *x >> 7
	*x ^= *x << 17
	return int64(uint64(*x) >> 11 % uint64(n))
}

// from is a number from lo to hi.
func (x *noise) from(lo, hi int64) int64 {
	return lo + x.upTo(hi-lo+1)
}

// whole is a number of 64 bits, of any size and sign.
func (x *noise) whole() int64 {
	return (x.upTo(most)<<1 + x.upTo(2)) >> x.upTo(64)
}

// one is one of these numbers.
func (x *noise) one(l ...int64) int64 {
	return l[x.upTo(int64(len(l)))]
}

// limits are some that may be, and by which something happens soon.
func (x *noise) limits() api.Limits {
	tach := x.one(90, 100, 120, x.from(40, 400))
	return api.Limits{
		Mains:  int(x.one(0, 50, 60)),
		Asys:   x.one(200, 200, 300, 800, x.from(200, 1000)),
		Tach:   tach,
		TachN:  x.one(1, 2, 3, x.from(1, 20)),
		Brad:   x.one(tach+1, 200, x.from(tach+1, 500)) + max(0, tach-199),
		BradN:  x.one(1, 2, 3, x.from(1, 20)),
		Fib:    x.one(50, 200, x.from(1, 2000)),
		FibN:   x.one(2, 5, 12, x.from(1, 200)),
		Escape: x.one(1, 20, 100, 2000, x.from(1, 3000)),
	}
}

// order is one that mostly may be, for a sample up to about one.
func (x *noise) order(from, to int64) api.Order {
	o := api.Order{At: x.one(x.from(from, to), x.from(from, to), x.from(from, to), x.from(from, to), 0, to, maxAt, to+x.upTo(500), x.whole()), Kind: int(x.one(1, 1, 1, 2, 2, 2, 2, 0, 3, x.whole()))}
	if o.Kind != 1 || x.upTo(9) == 0 {
		o.N = x.one(1, 20, x.from(1, 300), x.from(1, longest), longest, 0, -1, longest+1, x.whole())
	}
	return o
}

// orders are so many orders.
func (x *noise) orders(many, from, to int64) orders {
	var l orders
	for range many {
		l = append(l, x.order(from, to))
	}
	return l
}

// flow is a row of events that goes on from sample to sample.
type flow struct {
	*noise
	at  int64
	row events
}

// rowOf is so many events: of stretches of each kind.
func (x *noise) rowOf(many int) events {
	f := &flow{noise: x, at: x.one(0, 0, 0, 1000, maxAt-x.upTo(4000), -x.upTo(300))}
	for len(f.row) < many {
		f.stretch()
	}
	return f.row[:many]
}

// stretch puts a stretch of one kind behind the row.
func (f *flow) stretch() {
	switch f.upTo(16) {
	case 0, 1, 2, 3, 4, 5:
		each := f.from(50, 320)
		f.show(pulses(int(each*f.from(4, 14)), int32(f.from(800, 30000)), int(f.from(3, 6)), int(each)))
	case 6:
		f.show(even(int32(f.from(-40000, 40000)), int(f.from(1, 1100))))
	case 7, 8:
		f.show(swings(int(f.from(50, 900)), int32(f.from(100, 9000)), int(4*f.from(3, 12))))
	case 9, 10:
		f.leadless(int(f.one(1, 18, 19, 20, 21, 60, f.from(1, 200))))
		f.show(even(int32(f.from(-50, 50)), int(f.one(1, 98, 99, 100, 101, 130))))
	case 11:
		f.row = append(f.row, missing(f.at))
	case 12:
		f.row = append(f.row, missing(f.at))
		f.at += f.one(0, 1, 32, 500)
	case 13:
		f.any()
	case 14:
		f.noisy()
	default:
		f.at += f.one(0, 1, 3, 50, 900, -1, -100)
	}
}

// show puts samples with these values behind the row.
func (f *flow) show(l []int32) {
	f.row = append(f.row, shown(f.at, l...)...)
	f.at += int64(len(l))
}

// leadless puts so many samples with the lead off behind the row.
func (f *flow) leadless(many int) {
	f.row = append(f.row, hidden(f.at, many)...)
	f.at += int64(many)
}

// noisy puts some samples of any size behind the row.
func (f *flow) noisy() {
	far := f.one(3, 300, 40000)
	for range f.from(1, 300) {
		f.show([]int32{int32(f.from(-far, far))})
	}
}

// any puts some events of any kind behind the row, at any sample.
func (f *flow) any() {
	for range f.from(1, 4) {
		f.row = append(f.row, api.Event{
			Kind:   int(f.one(1, 2, 2, 2, 0, 3, 4, f.whole())),
			At:     f.one(f.at, f.at, f.at+f.upTo(300), f.whole(), maxAt-f.from(-2, 900)),
			Sample: api.Sample{V: int32(f.whole()), Off: f.upTo(2) == 0},
		})
	}
}
