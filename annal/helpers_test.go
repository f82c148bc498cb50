package annal_test

import (
	"math"
	"slices"
	"testing"

	"systole/annal"
	"systole/api"
)

const (
	most  = math.MaxInt64
	least = math.MinInt64
	// How many outs are kept, and how many kinds are counted.
	room  = 64
	kinds = 10
)

// outs are some of them.
type outs = []api.Out

// row is so many outs from one on: all of them unlike, in each of their numbers, but the kinds, of which the tenth and later ones are none that is counted.
func row(from, many int) outs {
	var l outs
	for n := from; n < from+many; n++ {
		l = append(l, api.Out{Kind: n % 13, At: 1000 + int64(n), Alarm: -n, N: int64(n) << 33})
	}
	return l
}

// amounts are how many outs there may be: around one time the room and two times, and some hundreds.
func amounts() []int {
	return []int{0, 1, 2, 5, 31, 32, 33, 62, 63, 64, 65, 66, 70, 126, 127, 128, 129, 130, 191, 192, 193, 255, 256, 257, 300, 517, 777}
}

// otherKinds are kinds that are not counted, among them those whose lower bits are those of kinds that are.
func otherKinds() []int {
	l := []int{-1, -2, -9, -10, -11, 10, 11, 12, 15, 16, 77, 100, math.MaxInt, math.MaxInt - 1, math.MinInt}
	for n := range kinds {
		l = append(l, 1<<4+n, 1<<8+n, 1<<16+n, 1<<31+n, 1<<32+n, 1<<62+n, -1<<4+n, -1<<8+n, -1<<32+n, math.MinInt+n)
	}
	return l
}

// of is a new annal to which these outs were added, in one call.
func of(l ...api.Out) *annal.Annal {
	a := annal.New()
	a.Add(l...)
	return a
}

// inParts is a new annal to which these outs were added in calls of one size each.
func inParts(size int, l outs) *annal.Annal {
	a := annal.New()
	for part := range slices.Chunk(l, size) {
		a.Add(part...)
	}
	return a
}

// end is what is kept of all that was added, by the words of the chapter.
func end(all outs) outs {
	return all[max(0, len(all)-room):]
}

// tally is how many there are of each kind.
func tally(all outs) map[int]int64 {
	m := map[int]int64{}
	for _, o := range all {
		m[o.Kind]++
	}
	return m
}

// is looks at what an annal says, all of it but what Last answers: it is to be what there is when these were added.
func is(t *testing.T, a *annal.Annal, all outs) {
	t.Helper()
	kept := end(all)
	if a.Len() != len(kept) || a.Dropped() != int64(len(all)-len(kept)) {
		t.Fatalf("behind %d: Len %d, Dropped %d", len(all), a.Len(), a.Dropped())
	}
	for i, want := range kept {
		if o, ok := a.At(i); o != want || !ok {
			t.Fatalf("behind %d: At(%d): %+v, %v; want %+v", len(all), i, o, ok, want)
		}
	}
	for _, i := range []int{-1, len(kept), room} {
		if o, ok := a.At(i); o != (api.Out{}) || ok {
			t.Fatalf("behind %d: At(%d): %+v, %v", len(all), i, o, ok)
		}
	}
	each := tally(all)
	for kind := range kinds {
		if n := a.Count(kind); n != each[kind] {
			t.Fatalf("behind %d: Count(%d): %d; want %d", len(all), kind, n, each[kind])
		}
	}
	if a.Count(-1) != 0 || a.Count(kinds) != 0 {
		t.Fatalf("behind %d: Count(-1) %d, Count(%d) %d", len(all), a.Count(-1), kinds, a.Count(kinds))
	}
}

// lasts looks at what Last of n answers.
func lasts(t *testing.T, a *annal.Annal, n int, want outs) {
	t.Helper()
	if l := a.Last(n); !slices.Equal(l, want) {
		t.Fatalf("Last(%d): %+v; want %+v", n, l, want)
	}
}

// lastsAll looks at Last of each n that there may be, and of others.
func lastsAll(t *testing.T, a *annal.Annal, all outs) {
	t.Helper()
	kept := end(all)
	for n := range room + 10 {
		lasts(t, a, n, kept[max(0, len(kept)-n):])
	}
	for _, n := range []int{-1, -2, -room, least, least + 1, least + 63, least + 64} {
		lasts(t, a, n, nil)
	}
	for _, n := range []int{room * 2, 1000, 1 << 31, 1 << 32, most - 64, most - 1, most} {
		lasts(t, a, n, kept)
	}
}
