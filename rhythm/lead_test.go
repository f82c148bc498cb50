package rhythm_test

import (
	"slices"
	"testing"

	"systole/api"
)

// P22.1, P22.2: the lead goes off, and comes on again: told at either, with the mark's own At, whatever it is.
func TestOffAndOn(t *testing.T) {
	for _, n := range edges() {
		r := of(t, usual())
		says(t, r, begins(1, n), off(n))
		is(t, r, 1)
		says(t, r, ends(1, n), on(n))
		is(t, r)
		says(t, r, begins(1, -n), off(-n))
		is(t, r, 1)
		says(t, r, ends(1, n), on(n))
		is(t, r)
	}
}

// P22.1: a lead that is off goes off once more, and one that is on comes on once more: nothing of it is told.
func TestOffAndOnTwice(t *testing.T) {
	r := of(t, usual())
	says(t, r, nil, on(1), on(2), on(2))
	is(t, r)
	says(t, r, begins(1, 3), off(3), off(4), off(4), off(1))
	is(t, r, 1)
	says(t, r, nil, off(5))
	is(t, r, 1)
	says(t, r, ends(1, 6), on(6), on(7), on(0))
	is(t, r)
}

// P22.1, P22.2: a lead that goes off: behind the beginning of AlLead all that was there ends, by rising kinds, at that sample; each condition by itself, and all that may be there at once.
func TestOffEndsAll(t *testing.T) {
	for _, kinds := range [][]int{{2}, {3}, {4}, {5}, {2, 3}, {2, 4}, {2, 5}, {3, 4}, {3, 5}, {2, 3, 4}, {2, 3, 5}} {
		for _, n := range []int64{1000, 0, -7, maxAt, maxAt + 9, most, least} {
			r := stands(t, kinds...)
			want := begins(1, n)
			for _, kind := range kinds {
				want = append(want, ends(kind, n)...)
			}
			says(t, r, want, off(n))
			is(t, r, 1)
			// Nothing of it is there any more when it comes on again.
			says(t, r, ends(1, n), on(n))
			is(t, r)
		}
	}
}

// P22.1, P22.2: a gap, and a lead that comes on though it is: what was there ends, by rising kinds, at that sample.
func TestGapAndOnEndAll(t *testing.T) {
	for _, kinds := range [][]int{nil, {2}, {3}, {4}, {5}, {2, 3}, {2, 4}, {2, 5}, {3, 4}, {3, 5}, {2, 3, 4}, {2, 3, 5}} {
		for _, n := range []int64{1000, 0, -7, maxAt, maxAt + 9, most, least} {
			for _, m := range []api.Mark{gap(n), on(n)} {
				r := stands(t, kinds...)
				var want outcome
				for _, kind := range kinds {
					want = append(want, ends(kind, n)...)
				}
				says(t, r, want, m)
				is(t, r)
				says(t, r, nil, m)
				is(t, r)
			}
		}
	}
}

// P22.1: a gap, and a lead that comes on, on or off as it was, let all begin anew: no distances, no crossings, and Asys from there on.
func TestAnew(t *testing.T) {
	ways := [][]api.Mark{{gap(1000)}, {on(1000)}, {off(990), on(1000)}, {off(990), gap(995), on(1000)}, {off(990), off(999), on(1000)}, {gap(990), gap(1000)}, {off(990), on(991), on(1000)}, {off(990), on(995), gap(1000)}}
	for _, way := range ways {
		r := of(t, quick())
		says(t, r, nil, fastOnes(0, 1)...)
		r.Push(flutter(1, 100, 3)...)
		r.Push(way...)
		is(t, r)
		// One distance, or one crossing, is missing still.
		says(t, r, nil, fastOnes(1001, 1)...)
		says(t, r, nil, sample(1002, 100), sample(1003, 99), sample(1004, 100))
		says(t, r, nil, sample(1005, 99))
		says(t, r, begins(3, 1006), sample(1006, 100))
		says(t, r, begins(4, 1007), fastOnes(1007, 1)...)

		r = of(t, quick())
		r.Push(slowOnes(0, 1)...)
		r.Push(way...)
		says(t, r, nil, slowOnes(1001, 1)...)
		says(t, r, begins(5, 1007), slowOnes(1007, 1)...)

		r = of(t, quick())
		r.Push(beat(0, 0), sample(100, 0))
		r.Push(way...)
		says(t, r, nil, sample(1000, 0), sample(1199, 0))
		says(t, r, begins(2, 1200), sample(1200, 0))
	}
}

// P22.1: the value ahead of a gap, or of a lead that goes off or comes on, is ahead of no other one: a crossing has both of its values behind it.
func TestNoCrossingOverABeginning(t *testing.T) {
	for _, way := range [][]api.Mark{{gap(11)}, {on(11)}, {off(11), on(12)}, {off(11), gap(11), on(12)}} {
		r := of(t, quickest())
		says(t, r, nil, sample(10, 99))
		r.Push(way...)
		says(t, r, nil, sample(13, 100), sample(14, 100))
		says(t, r, begins(3, 16), sample(15, 99), sample(16, 100))
	}
	// Without anything between it is one.
	says(t, of(t, quickest()), begins(3, 11), sample(10, 99), sample(11, 100))
	// Nor do values that come while the lead is off stand ahead of any.
	r := of(t, quickest())
	says(t, r, and(begins(1, 1), ends(1, 3)), off(1), sample(2, 99), on(3), sample(4, 100))
	says(t, r, begins(1, 5), sample(5, 99), off(5), sample(6, 100))
	is(t, r, 1)
}

// P22.1, P22.2, P22.4: while the lead is off samples and beats are passed over: nothing is told, and nothing is counted.
func TestPassedOver(t *testing.T) {
	r := of(t, quickest())
	says(t, r, begins(1, 100), off(100))
	says(t, r, nil, fastOnes(101, 30)...)
	says(t, r, nil, slowOnes(9000, 30)...)
	says(t, r, nil, flutter(20000, 100, 900)...)
	says(t, r, nil, sample(0, 0), sample(most, most), sample(least, least), beat(most, most), beat(0, 1))
	is(t, r, 1)
	says(t, r, ends(1, 30000), on(30000))
	is(t, r)
	// No distance and no crossing is left of it, and it began when the lead came on.
	says(t, r, nil, sample(30001, 100), sample(30199, 100))
	says(t, r, begins(2, 30200), sample(30200, 100))
	says(t, r, ends(2, 30201), beat(30201, 0))

	// Of two at least one more comes behind it.
	r = of(t, quick())
	r.Push(off(0))
	says(t, r, nil, fastOnes(0, 1)...)
	says(t, r, ends(1, 50), on(50))
	says(t, r, nil, fastOnes(60, 1)...)
	says(t, r, begins(4, 70), fastOnes(70, 1)...)
}

// P22.1: a gap while the lead is off: it stays off, nothing is told, and what comes then is passed over still.
func TestGapWhileOff(t *testing.T) {
	for _, n := range edges() {
		r := of(t, quickest())
		r.Push(off(5))
		says(t, r, nil, gap(n))
		is(t, r, 1)
		says(t, r, nil, sample(n, 99), sample(n, 100), beat(n, 90), sample(maxAt, 0), sample(most, 0))
		is(t, r, 1)
		says(t, r, ends(1, 1000), on(1000))
		is(t, r)
		// It begins where the lead came on, not at the gap.
		says(t, r, nil, sample(1199, 0))
		says(t, r, begins(2, 1200), sample(1200, 0))
	}
}

// P22.1, P22.2: each kind of mark behind each other kind, while the lead is on, and while it is off, written out: none of them tells of anything but the lead.
func TestEachBehindEach(t *testing.T) {
	l := []api.Mark{gap(10), off(10), on(10), sample(10, 7), dark(10), beat(10, 0), {Kind: 0, At: 10}, {Kind: 7, At: 10}}
	for _, first := range l {
		for _, second := range l {
			isOff := false
			r := of(t, usual())
			for i, m := range []api.Mark{first, at(11, second)} {
				var want outcome
				if m.Kind == 2 && !isOff {
					want, isOff = begins(1, 10+int64(i)), true
				}
				if m.Kind == 3 && isOff {
					want, isOff = ends(1, 10+int64(i)), false
				}
				says(t, r, want, m)
				if r.Off() != isOff || r.On(1) != isOff {
					t.Fatalf("behind %+v: Off is %v", m, r.Off())
				}
			}

			r = of(t, usual())
			says(t, r, begins(1, 1), off(1))
			isOff = true
			for i, m := range []api.Mark{first, at(11, second)} {
				var want outcome
				if m.Kind == 2 && !isOff {
					want, isOff = begins(1, 10+int64(i)), true
				}
				if m.Kind == 3 && isOff {
					want, isOff = ends(1, 10+int64(i)), false
				}
				says(t, r, want, m)
				if r.Off() != isOff || r.On(1) != isOff {
					t.Fatalf("behind %+v: Off is %v", m, r.Off())
				}
			}
		}
	}
}

// P22.1, P22.2: each row of four marks of each kind, close to one another or so far that a beat is missing, held against the chapter's words.
func TestEachRow(t *testing.T) {
	l := quickest()
	var alphabet []api.Mark
	for _, step := range []int64{1, l.Asys} {
		for _, m := range []api.Mark{gap(0), off(0), on(0), sample(0, 99), sample(0, 100), dark(0), beat(0, 90), beat(0, 300), beat(0, 0), {Kind: 7}} {
			alphabet = append(alphabet, at(step, m))
		}
	}
	var row []api.Mark
	var further func()
	further = func() {
		if len(row) == 4 {
			heldAtEnd(t, l, row)
			return
		}
		for _, m := range alphabet {
			n := m.At
			if len(row) > 0 {
				n += row[len(row)-1].At
			}
			row = append(row, at(n, m))
			further()
			row = row[:len(row)-1]
		}
	}
	further()
}

// heldAtEnd pushes a row one by one, and holds what is told, and what stands at the end, against the chapter's words.
func heldAtEnd(t *testing.T, l api.Limits, row []api.Mark) {
	t.Helper()
	r := of(t, l)
	for i, m := range row {
		if got, want := r.Push(m), toldOf(l, row[:i], m); !slices.Equal(got, want) {
			t.Fatalf("row %+v, mark %d: %v; want %v", row, i, got, want)
		}
	}
	for kind, there := range wordsOf(l, row) {
		if r.On(kind) != there {
			t.Fatalf("row %+v: On(%d): %v", row, kind, r.On(kind))
		}
	}
}
