package fixq_test

import (
	"math/big"
	"slices"
	"testing"

	"systole/api"
	"systole/fixq"
)

// P1.1: sums of none, one and many, written out.
func TestAddAnswers(t *testing.T) {
	answered(t, "Add", fixq.Add, []asked{
		{nil, answer{0, api.OK}},
		{[]int64{}, answer{0, api.OK}},
		{args(5), answer{5, api.OK}},
		{args(most), answer{most, api.OK}},
		{args(least), answer{least, api.OK}},
		{args(1, 2, 3, -7), answer{-1, api.OK}},
		{args(most, 0), answer{most, api.OK}},
		{args(most, 1), answer{0, api.ErrOver}},
		{args(1, most), answer{0, api.ErrOver}},
		{args(least, -1), answer{0, api.ErrOver}},
		{args(most, least), answer{-1, api.OK}},
		{args(least, least), answer{0, api.ErrOver}},
		{args(1<<62, 1<<62), answer{0, api.ErrOver}},
		{args(-1<<62, -1<<62), answer{least, api.OK}},
	})
}

// P1.1: what is met on the way does not count, however far it goes.
func TestAddOnTheWay(t *testing.T) {
	answered(t, "Add", fixq.Add, []asked{
		{args(most, 1, -1), answer{most, api.OK}},
		{args(least, -1, 1), answer{least, api.OK}},
		{args(most, most, least, least), answer{-2, api.OK}},
		{args(least, least, most, most), answer{-2, api.OK}},
		{args(most, most, most, -most, -most), answer{most, api.OK}},
		{args(least, least, least, most, most, 2), answer{least, api.OK}},
		{args(1<<62, 1<<62, 1<<62, 1<<62), answer{0, api.ErrOver}},    // 2^64, which wraps round to 0
		{args(least, least, least, least), answer{0, api.ErrOver}},    // -2^65
		{args(most, most, 3), answer{0, api.ErrOver}},                 // wraps round to 1
		{args(least, least, -1), answer{0, api.ErrOver}},              // wraps round to -1
		{args(most, most, most, least, 5), answer{0, api.ErrOver}},    // above, in the end
		{args(least, least, least, most, -5), answer{0, api.ErrOver}}, // below, in the end
	})
}

// P1.1: a great many numbers.
func TestAddMany(t *testing.T) {
	const many = 100000
	up := slices.Repeat(args(most), many)
	down := slices.Repeat(args(-most), many)
	if n, e := fixq.Add(append(up, down...)...); n != 0 || e != api.OK {
		t.Errorf("as far up as down: %d, error %d", n, e)
	}
	if n, e := fixq.Add(append(append(up, down...), least)...); n != least || e != api.OK {
		t.Errorf("as far up as down, and the least: %d, error %d", n, e)
	}
	if n, e := fixq.Add(up...); n != 0 || e != api.ErrOver {
		t.Errorf("far up: %d, error %d", n, e)
	}
	if n, e := fixq.Add(slices.Repeat(args(-1), many)...); n != -many || e != api.OK {
		t.Errorf("many of -1: %d, error %d", n, e)
	}
}

// P1.1: pairs and triples of edges, held against numbers without an end.
func TestAddSubAgainstWhole(t *testing.T) {
	l := edges()
	for _, a := range l {
		n, e := fixq.Add(a)
		told(t, "Add", args(a), bigSum(a), n, e)
		for _, b := range l {
			n, e := fixq.Add(a, b)
			told(t, "Add", args(a, b), bigSum(a, b), n, e)
			n, e = fixq.Sub(a, b)
			told(t, "Sub", args(a, b), new(big.Int).Sub(big.NewInt(a), big.NewInt(b)), n, e)
		}
	}
	few := fewEdges()
	for _, a := range few {
		for _, b := range few {
			for _, c := range few {
				n, e := fixq.Add(a, b, c)
				told(t, "Add", args(a, b, c), bigSum(a, b, c), n, e)
			}
		}
	}
}

// P1.1: differences, written out.
func TestSubAnswers(t *testing.T) {
	answered(t, "Sub", pair(fixq.Sub), []asked{
		{args(5, 3), answer{2, api.OK}},
		{args(3, 5), answer{-2, api.OK}},
		{args(0, most), answer{-most, api.OK}},
		{args(0, least), answer{0, api.ErrOver}},
		{args(-1, least), answer{most, api.OK}},
		{args(-1, most), answer{least, api.OK}},
		{args(-2, most), answer{0, api.ErrOver}},
		{args(1, least), answer{0, api.ErrOver}},
		{args(least, 1), answer{0, api.ErrOver}},
		{args(most, -1), answer{0, api.ErrOver}},
		{args(least, least), answer{0, api.OK}},
		{args(most, most), answer{0, api.OK}},
		{args(least, most), answer{0, api.ErrOver}},
		{args(most, least), answer{0, api.ErrOver}},
	})
}

// P1.1: products of none, one and many, written out.
func TestMulAnswers(t *testing.T) {
	answered(t, "Mul", fixq.Mul, []asked{
		{nil, answer{1, api.OK}},
		{[]int64{}, answer{1, api.OK}},
		{args(-5), answer{-5, api.OK}},
		{args(0), answer{0, api.OK}},
		{args(most), answer{most, api.OK}},
		{args(least), answer{least, api.OK}},
		{args(2, -3, 7), answer{-42, api.OK}},
		{args(-2, -3, -7), answer{-42, api.OK}},
		{args(most, -1), answer{-most, api.OK}},
		{args(least, 1), answer{least, api.OK}},
		{args(least, -1), answer{0, api.ErrOver}},
		{args(-1, least), answer{0, api.ErrOver}},
		{args(1<<32, 1<<31), answer{0, api.ErrOver}},
		{args(1<<32, -1<<31), answer{least, api.OK}},
		{args(-1<<32, -1<<31), answer{0, api.ErrOver}},
		{args(3037000499, 3037000499), answer{9223372030926249001, api.OK}},
		{args(3037000500, 3037000500), answer{0, api.ErrOver}},
		{args(3037000500, -3037000500), answer{0, api.ErrOver}},
		{args(1<<32, 1<<32), answer{0, api.ErrOver}},   // wraps round to 0
		{args(1<<33, 1<<33), answer{0, api.ErrOver}},   // wraps round to 0
		{args(least, least), answer{0, api.ErrOver}},   // wraps round to 0
		{args(most, most), answer{0, api.ErrOver}},     // wraps round to 1
		{args(least, 3), answer{0, api.ErrOver}},       // wraps round to the least
		{args(1<<33+1, 1<<31), answer{0, api.ErrOver}}, // wraps round to 2^31
	})
}

// P1.1: a product leaves the range on the way and is back at the end, by a 0, or by a sign.
func TestMulOnTheWay(t *testing.T) {
	answered(t, "Mul", fixq.Mul, []asked{
		{args(1<<62, 2, -1), answer{least, api.OK}},
		{args(least, -1, -1), answer{least, api.OK}},
		{args(-1, least, -1), answer{least, api.OK}},
		{args(-1<<31, -1<<32, -1), answer{least, api.OK}},
		{args(least, -1, -1, -1), answer{0, api.ErrOver}},
		{args(most, most, most, 0), answer{0, api.OK}},
		{args(least, least, 0, least), answer{0, api.OK}},
		{args(0, least, -1), answer{0, api.OK}},
		{args(1<<62, 4, 0), answer{0, api.OK}},
		{args(1<<62, 4, 1), answer{0, api.ErrOver}},
		{args(1<<62, 4, -1), answer{0, api.ErrOver}},
	})
}

// P1.1: a great many factors.
func TestMulMany(t *testing.T) {
	const many = 100001
	if n, e := fixq.Mul(slices.Repeat(args(-1), many)...); n != -1 || e != api.OK {
		t.Errorf("many of -1: %d, error %d", n, e)
	}
	if n, e := fixq.Mul(slices.Repeat(args(-2), 63)...); n != least || e != api.OK {
		t.Errorf("63 of -2: %d, error %d", n, e)
	}
	if n, e := fixq.Mul(slices.Repeat(args(2), 63)...); n != 0 || e != api.ErrOver {
		t.Errorf("63 of 2: %d, error %d", n, e)
	}
	great := slices.Repeat(args(most), many)
	if n, e := fixq.Mul(great...); n != 0 || e != api.ErrOver {
		t.Errorf("many of the greatest: %d, error %d", n, e)
	}
	if n, e := fixq.Mul(append(great, 0)...); n != 0 || e != api.OK {
		t.Errorf("many of the greatest, and 0: %d, error %d", n, e)
	}
}

// P1.1: pairs, triples and quadruples of edges, held against numbers without an end.
func TestMulAgainstWhole(t *testing.T) {
	l := edges()
	for _, a := range l {
		n, e := fixq.Mul(a)
		told(t, "Mul", args(a), bigProduct(a), n, e)
		for _, b := range l {
			n, e := fixq.Mul(a, b)
			told(t, "Mul", args(a, b), bigProduct(a, b), n, e)
		}
	}
	few := fewEdges()
	for _, a := range few {
		for _, b := range few {
			for _, c := range few {
				n, e := fixq.Mul(a, b, c)
				told(t, "Mul", args(a, b, c), bigProduct(a, b, c), n, e)
				n, e = fixq.Mul(a, b, c, -1)
				told(t, "Mul", args(a, b, c, -1), bigProduct(a, b, c, -1), n, e)
			}
		}
	}
}

// P1.1: what fits 32 bits, and what does not.
func TestFit(t *testing.T) {
	for _, c := range []struct {
		n    int64
		want int32
		e    api.Errno
	}{
		{0, 0, api.OK},
		{-17, -17, api.OK},
		{most32, most32, api.OK},
		{least32, least32, api.OK},
		{most32 + 1, 0, api.ErrOver},
		{least32 - 1, 0, api.ErrOver},
		{1 << 32, 0, api.ErrOver},
		{1<<32 + 1, 0, api.ErrOver}, // its lower 32 bits would be 1
		{-1 << 32, 0, api.ErrOver},
		{most, 0, api.ErrOver},
		{least, 0, api.ErrOver},
	} {
		if n, e := fixq.Fit(c.n); n != c.want || e != c.e {
			t.Errorf("Fit(%d): %d, error %d; want %d, error %d", c.n, n, e, c.want, c.e)
		}
	}
	for _, a := range edges() {
		n, e := fixq.Fit(a)
		fits := a >= least32 && a <= most32
		if fits && (int64(n) != a || e != api.OK) || !fits && (n != 0 || e != api.ErrOver) {
			t.Errorf("Fit(%d): %d, error %d", a, n, e)
		}
	}
}
