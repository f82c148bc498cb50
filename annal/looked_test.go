package annal_test

import (
	"testing"

	"systole/annal"
	"systole/api"
)

// places are those that are looked at of an annal that keeps so many: around both ends, and far away, among them those whose lower bits are those of places that there are.
func places(many int) []int {
	l := []int{-1, -2, -63, -64, -65, 0, 1, many - 2, many - 1, many, many + 1, 62, 63, 64, 65, 127, 128, 129, 1000}
	for _, k := range []int{6, 7, 8, 16, 31, 32, 62} {
		l = append(l, 1<<k-1, 1<<k, 1<<k+1, -1<<k, -1<<k+1, -1<<k-1)
	}
	return append(l, most-64, most-63, most-1, most, least, least+1, least+63, least+64)
}

// P25.1: At of each place that there is, from the oldest one on; of each other one false, and an out with 0 throughout.
func TestAt(t *testing.T) {
	for _, many := range amounts() {
		all := row(1, many)
		a, kept := of(all...), end(all)
		for _, i := range places(len(kept)) {
			o, ok := a.At(i)
			if i >= 0 && i < len(kept) {
				if o != kept[i] || !ok {
					t.Fatalf("behind %d: At(%d): %+v, %v; want %+v", many, i, o, ok, kept[i])
				}
			} else if o != (api.Out{}) || ok {
				t.Fatalf("behind %d: At(%d): %+v, %v", many, i, o, ok)
			}
		}
	}
}

// P25.1: Last of each number: none of one below 1, all where there are no more, else the last ones, the last one last.
func TestLast(t *testing.T) {
	for _, many := range amounts() {
		all := row(1, many)
		a, kept := of(all...), end(all)
		for _, n := range places(len(kept)) {
			l := a.Last(n)
			if want := max(0, min(n, len(kept))); len(l) != want {
				t.Fatalf("behind %d: Last(%d): %d outs", many, n, len(l))
			}
			for i, o := range l {
				if o != all[many-len(l)+i] {
					t.Fatalf("behind %d: Last(%d): %+v at %d", many, n, o, i)
				}
			}
		}
	}
}

// P25.1, written out: the last ones at the edge of the room.
func TestLastWrittenOut(t *testing.T) {
	a := annal.New()
	for at := range int64(66) {
		a.Add(api.Out{Kind: 1, At: at})
	}
	if o, ok := a.At(0); o.At != 2 || !ok {
		t.Errorf("At(0): %+v, %v", o, ok)
	}
	lasts(t, a, 0, nil)
	lasts(t, a, 1, outs{{Kind: 1, At: 65}})
	lasts(t, a, 2, outs{{Kind: 1, At: 64}, {Kind: 1, At: 65}})
	for _, n := range []int{63, 64, 65, most} {
		l := a.Last(n)
		if len(l) != min(n, 64) || l[0].At != int64(66-len(l)) || l[len(l)-1].At != 65 {
			t.Errorf("Last(%d): %+v", n, l)
		}
	}
}

// P25.1: what is asked, and how often, changes nothing.
func TestAskingDoesNothing(t *testing.T) {
	var x noise
	asked, left := annal.New(), annal.New()
	for range 300 {
		l := x.some(x.upTo(9))
		asked.Add(l...)
		left.Add(l...)
		for _, n := range places(asked.Len()) {
			asked.At(n)
			asked.Last(n)
			asked.Count(n)
		}
		asked.Len()
		asked.Dropped()
		asked.Clone().Add(row(0, 70)...)
		alike(t, asked, left)
	}
}
