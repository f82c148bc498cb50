package text_test

import (
	"math"
	"slices"
	"testing"

	"systole/api"
	"systole/text"
)

const (
	most  = math.MaxInt64
	least = math.MinInt64
)

// readIs looks at a Read.
func readIs(t *testing.T, s string, want int64, wrong api.Errno) {
	t.Helper()
	if n, e := text.Read(s); n != want || e != wrong {
		t.Errorf("Read of %.99q: %d, error %d; want %d, error %d", s, n, e, want, wrong)
	}
}

// unhexIs looks at an Unhex.
func unhexIs(t *testing.T, s string, want []byte, wrong api.Errno) {
	t.Helper()
	if l, e := text.Unhex(s); !slices.Equal(l, want) || e != wrong {
		t.Errorf("Unhex of %.99q: % X, error %d; want % X, error %d", s, l, e, want, wrong)
	}
}

// listIs looks at a list of pieces; an empty one and nil are the same.
func listIs(t *testing.T, name, s string, got []string, want ...string) {
	t.Helper()
	if !slices.Equal(got, want) {
		t.Errorf("%s of %.99q: %q; want %q", name, s, got, want)
	}
}

// joinIs looks at a Join.
func joinIs(t *testing.T, want string, l ...string) {
	t.Helper()
	if s := text.Join(l...); s != want {
		t.Errorf("Join of %q: %q; want %q", l, s, want)
	}
}

// numbers are numbers of 64 bits at which something changes: signs, how many digits there are, powers of two, and the range's ends; and mixed ones of all sizes, the same each time.
func numbers() []int64 {
	l := []int64{0, most, most - 1, least, least + 1}
	for ten := int64(1); ten < 1e18; ten *= 10 {
		l = append(l, ten-1, ten, ten+1, 10*ten-1, 10*ten, -ten+1, -ten, -ten-1, -10*ten)
	}
	for k := range 63 {
		two := int64(1) << k
		l = append(l, two-1, two, two+1, -two+1, -two, -two-1)
	}
	for i, b := range mixed(4096) {
		l = append(l, int64(b)>>(i%64))
	}
	return l
}

// mixed are numbers of all kinds, the same ones each time.
func mixed(many int) []uint64 {
	l := make([]uint64, many)
	x := uint64(88172645463325252)
	for i := range l {
		x ^= x << 13
		x ^= x >> 7
		x ^= x << 17
		l[i] = x * 0x9E3779B97F4A7C15
	}
	return l
}

// mixedBytes are bytes of all kinds, the same ones each time.
func mixedBytes(many int) []byte {
	l := make([]byte, many)
	for i, n := range mixed(many) {
		l[i] = byte(n >> 40)
	}
	return l
}

// allBytes is each byte, once.
func allBytes() []byte {
	l := make([]byte, 256)
	for i := range l {
		l[i] = byte(i)
	}
	return l
}

// texts hands on each text of the signs that has at most so many of them.
func texts(signs string, many int, see func(s string)) {
	all := []string{""}
	for range many + 1 {
		var longer []string
		for _, s := range all {
			see(s)
			for i := range len(signs) {
				longer = append(longer, s+signs[i:i+1])
			}
		}
		all = longer
	}
}

// with is s with another byte at a place.
func with(s string, place int, b byte) string {
	return s[:place] + string([]byte{b}) + s[place+1:]
}
