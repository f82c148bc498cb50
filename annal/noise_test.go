package annal_test

import (
	"systole/api"
)

// noise hands out numbers of all kinds, the same ones each time.
type noise uint64

// upTo is the next number, from 0 up to n - 1.
func (x *noise) upTo(n int64) int64 {
	if *x == 0 {
		*x = 88172645463325252
	}
	*x ^= *x << 13
	*x ^= *x >> 7
	*x ^= *x << 17
	return int64(uint64(*x) >> 11 % uint64(n))
}

// whole is a number of 64 bits, of any size and sign.
func (x *noise) whole() int64 {
	return (x.upTo(most)<<1 + x.upTo(2)) >> x.upTo(64)
}

// one is one of these numbers.
func (x *noise) one(l ...int64) int64 {
	return l[x.upTo(int64(len(l)))]
}

// size is how many outs are added in one call: mostly few, now and then as many as are kept, or more.
func (x *noise) size() int64 {
	return x.one(0, 1, 1, 1, 2, 3, x.upTo(12), x.upTo(40), 62+x.upTo(5), x.upTo(200))
}

// some are so many outs, mostly of kinds that are counted.
func (x *noise) some(many int64) outs {
	var l outs
	for range many {
		kind := x.one(x.upTo(10), x.upTo(10), x.upTo(10), x.one(0, 9), x.one(-1, 10, 77), x.whole())
		l = append(l, api.Out{Kind: int(kind), At: x.one(x.upTo(50), x.whole()), Alarm: int(x.one(x.upTo(6), x.whole())), N: x.one(0, 1, x.whole())})
	}
	return l
}
