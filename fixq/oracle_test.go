package fixq_test

import (
	"math"
	"math/big"
	"testing"

	"systole/api"
)

const (
	most    = math.MaxInt64
	least   = math.MinInt64
	most32  = math.MaxInt32
	least32 = math.MinInt32
)

// edges are numbers of 64 bits at which something changes: signs, powers of two, halves of words, and the range's ends.
func edges() []int64 {
	l := []int64{0, 3, 5, 7, 10, 99, 1000003, 3037000499, 3037000500, most / 3, least / 3}
	for k := range 63 {
		l = append(l, int64(1)<<k-1, int64(1)<<k, int64(1)<<k+1)
	}
	for _, n := range l {
		l = append(l, -n)
	}
	return append(l, most, most-1, least, least+1, least+2)
}

// fewEdges are enough for going through triples and quadruples of them.
func fewEdges() []int64 {
	return []int64{0, 1, -1, 2, -2, 3, 1 << 31, -1 << 31, 1 << 32, -1 << 32, 3037000500, 1 << 62, -1 << 62, most - 1, most, least, least + 1}
}

// edges32 are the edges that fit 32 bits.
func edges32() []int32 {
	var l []int32
	for _, n := range edges() {
		if n >= least32 && n <= most32 {
			l = append(l, int32(n))
		}
	}
	return append(l, least32, least32+1, most32, most32-1)
}

// mixed are numbers of all sizes, the same ones each time.
func mixed(many int) []int64 {
	l := make([]int64, many)
	x := uint64(88172645463325252)
	for i := range l {
		x ^= x << 13
		x ^= x >> 7
		x ^= x << 17
		l[i] = int64(x) >> (i % 64)
	}
	return l
}

func bigSum(l ...int64) *big.Int {
	sum := big.NewInt(0)
	for _, n := range l {
		sum.Add(sum, big.NewInt(n))
	}
	return sum
}

func bigProduct(l ...int64) *big.Int {
	product := big.NewInt(1)
	for _, n := range l {
		product.Mul(product, big.NewInt(n))
	}
	return product
}

// bigFloor is the floor of a by b, which is not 0: big.Int's own division by a number below 0 isn't.
func bigFloor(a, b *big.Int) *big.Int {
	if b.Sign() < 0 {
		a, b = new(big.Int).Neg(a), new(big.Int).Neg(b)
	}
	return new(big.Int).Div(a, b)
}

// bigNear is what n is as the nearest number of 32 bits.
func bigNear(n *big.Int) int32 {
	if n.Cmp(big.NewInt(most32)) > 0 {
		return most32
	}
	if n.Cmp(big.NewInt(least32)) < 0 {
		return least32
	}
	return int32(n.Int64())
}

// answer is a checked call's: a number, and an error.
type answer struct {
	n int64
	e api.Errno
}

// asked is what a checked call is given, and what it must answer.
type asked struct {
	l    []int64
	want answer
}

// answered looks at what a checked call answers in each case.
func answered(t *testing.T, name string, call func(...int64) (int64, api.Errno), cases []asked) {
	t.Helper()
	for _, c := range cases {
		if n, e := call(c.l...); (answer{n, e}) != c.want {
			t.Errorf("%s%v: %d, error %d; want %v", name, c.l, n, e, c.want)
		}
	}
}

// pair is a call of two numbers as one of a list.
func pair(call func(a, b int64) (int64, api.Errno)) func(...int64) (int64, api.Errno) {
	return func(l ...int64) (int64, api.Errno) { return call(l[0], l[1]) }
}

// told looks at what a call answered: the whole number, if it fits, else 0 and ErrOver.
func told(t *testing.T, name string, args []int64, whole *big.Int, n int64, e api.Errno) {
	t.Helper()
	want, wrong := int64(0), api.ErrOver
	if whole.IsInt64() {
		want, wrong = whole.Int64(), api.OK
	}
	if n != want || e != wrong {
		t.Errorf("%s%v: %d, error %d; want %d, error %d", name, args, n, e, want, wrong)
	}
}

// number looks at a number that a call answered.
func number[T int32 | int64](t *testing.T, name string, args []int64, got, want T) {
	t.Helper()
	if got != want {
		t.Errorf("%s%v: %d; want %d", name, args, got, want)
	}
}

// args is one type's list of what a call was given, for telling it.
func args(l ...int64) []int64 { return l }
