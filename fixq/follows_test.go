package fixq_test

import (
	"math/big"
	"slices"
	"testing"

	"systole/api"
	"systole/fixq"
)

// P1.5: a list is cut in two at each place; the sums of the parts, in either order, are added up.
func TestPartsCut(t *testing.T) {
	lists := [][]int64{
		{},
		{7},
		{most, least},
		{1, -2, 3, -4, 5, -6},
		{most, -1, -most, 5, least, 1 << 62, 1 << 62},
		{least, most, 1, -1, least, most, 17},
		{1 << 62, -1 << 62, 1 << 61, 1 << 61, -1 << 60},
		mixed(200),
	}
	for _, l := range lists {
		all, e := fixq.Add(l...)
		if e != api.OK {
			t.Fatalf("Add%v: error %d", l, e)
		}
		for i := range len(l) + 1 {
			partsAdded(t, all, l[:i], l[i:])
			for j := i; j <= len(l); j += 1 + len(l)/10 {
				partsAdded(t, all, l[:i], l[i:j], l[j:])
			}
		}
	}
}

// partsAdded adds the sums of parts up, from either end on, where each of them fits.
func partsAdded(t *testing.T, all int64, parts ...[]int64) {
	t.Helper()
	var sums []int64
	for _, l := range parts {
		sum, e := fixq.Add(l...)
		if e != api.OK {
			return
		}
		sums = append(sums, sum)
	}
	for range 2 {
		n, e := fixq.Add(sums...)
		told(t, "Add", sums, big.NewInt(all), n, e)
		slices.Reverse(sums)
	}
}

// P1.5: each order of a list has the same sum, or none.
func TestPartsOrder(t *testing.T) {
	for _, l := range [][]int64{
		{most, most, least, least, 2},
		{most, 1, -1, 5, -5},
		{least, -1, 1, most, 1},
		{1 << 62, 1 << 62, -1, 0, 3},
		{most, most, most, least, least},
	} {
		want := bigSum(l...)
		orders(slices.Clone(l), 0, func(o []int64) {
			n, e := fixq.Add(o...)
			told(t, "Add", o, want, n, e)
		})
	}
}

// orders hands on each order of what stands from a place on.
func orders(l []int64, from int, see func([]int64)) {
	if from == len(l) {
		see(l)
		return
	}
	for i := from; i < len(l); i++ {
		l[from], l[i] = l[i], l[from]
		orders(l, from+1, see)
		l[from], l[i] = l[i], l[from]
	}
}

// P1.6: what a quotient leaves is 0, or on b's side of it and nearer to 0 than b.
func TestRest(t *testing.T) {
	l := append(edges(), mixed(256)...)
	for _, a := range l {
		for _, b := range l {
			n, e := fixq.Div(a, b)
			if e != api.OK {
				if b != 0 && (a != least || b != -1) {
					t.Errorf("Div(%d, %d): error %d", a, b, e)
				}
				continue
			}
			rest := new(big.Int).Sub(big.NewInt(a), bigProduct(n, b))
			side := rest.Sign() == 0 || rest.Sign() == big.NewInt(b).Sign()
			if !side || rest.CmpAbs(big.NewInt(b)) >= 0 {
				t.Errorf("Div(%d, %d): %d leaves %v", a, b, n, rest)
			}
		}
	}
}

// The rules R4 and R5: lists that are handed in stay as they are, what lies behind their length is not read, and the same calls answer the same.
func TestListsAreLeftAlone(t *testing.T) {
	room := args(4, -3, most, 2, least, 0)
	before := slices.Clone(room)
	for many := range len(room) + 1 {
		for range 2 {
			n, e := fixq.Add(room[:many]...)
			told(t, "Add", room[:many], bigSum(before[:many]...), n, e)
			n, e = fixq.Mul(room[:many]...)
			told(t, "Mul", room[:many], bigProduct(before[:many]...), n, e)
		}
		if !slices.Equal(room, before) {
			t.Fatalf("a list was changed: %v; it was %v", room, before)
		}
	}
}
