package rhythm_test

import (
	"slices"
	"testing"

	"systole/api"
	"systole/rhythm"
)

// P22.1, P22.2: long rows of random marks with random limits, in calls of any number of marks, held against the chapter's words; and that each kind of condition began and ended in them often enough to say something.
func TestRows(t *testing.T) {
	var x noise
	var begun, ended [6]int
	for range 120 {
		l := x.limits()
		h := heldOf(t, l)
		marks := x.rowOf(l, 900)
		for len(marks) > 0 {
			n := min(x.one(0, 1, 1, 1, 2, 3, x.from(1, 40)), int64(len(marks)))
			for _, c := range h.push(t, marks[:n]...) {
				if c.On {
					begun[c.Kind]++
				} else {
					ended[c.Kind]++
				}
			}
			marks = marks[n:]
		}
	}
	for kind := 1; kind <= 5; kind++ {
		if begun[kind] < 100 || ended[kind] < 100 {
			t.Errorf("of kind %d %d began, and %d ended", kind, begun[kind], ended[kind])
		}
	}
}

// P22.3, P22.4: of each kind it begins and ends by turns, beginning first; while the lead is off AlLead alone is there; AlTach and AlBrad are never both there.
func TestTurns(t *testing.T) {
	x := noise(5)
	for range 150 {
		l := x.limits()
		r := of(t, l)
		var there state
		for _, m := range x.rowOf(l, 1500) {
			kind := 0
			for _, c := range r.Push(m) {
				if c.Kind <= kind || c.Kind > 5 || c.At != m.At || c.On == there[c.Kind] {
					t.Fatalf("limits %+v, at %+v: %v; there were %v", l, m, c, there)
				}
				kind, there[c.Kind] = c.Kind, c.On
			}
			for kind := range there {
				if r.On(kind) != there[kind] {
					t.Fatalf("On(%d): %v", kind, r.On(kind))
				}
			}
			if r.Off() != there[1] || there[1] && there != (state{1: true}) || there[4] && there[5] {
				t.Fatalf("Off: %v; there are %v", r.Off(), there)
			}
		}
	}
}

// P22.1: marks in one call, one by one, and in two calls wherever they are parted, come to the same.
func TestParted(t *testing.T) {
	x := noise(9)
	for range 12 {
		l := x.limits()
		l.FibN = x.from(1, 5)
		marks := x.rowOf(l, 160)
		whole := of(t, l).Push(marks...)
		var single outcome
		r := of(t, l)
		for _, m := range marks {
			single = append(single, r.Push(m)...)
		}
		if !slices.Equal(single, whole) {
			t.Fatalf("one by one: %v; want %v", single, whole)
		}
		for i := range marks {
			r := of(t, l)
			if got := and(r.Push(marks[:i]...), r.Push(marks[i:]...)); !slices.Equal(got, whole) {
				t.Fatalf("parted at %d: %v; want %v", i, got, whole)
			}
		}
	}
}

// P22.2: All is Push of a New rhythm: with no mark, one, and many; and nothing, if the limits may not be.
func TestAll(t *testing.T) {
	x := noise(11)
	for range 80 {
		l := x.limits()
		marks := x.rowOf(l, int(x.one(1, 2, 400)))
		for _, n := range []int{0, 1, len(marks)} {
			if got, want := rhythm.All(l, marks[:n]...), of(t, l).Push(marks[:n]...); !slices.Equal(got, want) {
				t.Fatalf("All: %v; want %v", got, want)
			}
		}
		if got := rhythm.All(l); len(got) != 0 {
			t.Fatalf("All of no mark: %v", got)
		}
		l.Asys = 199
		if got := rhythm.All(l, marks...); len(got) != 0 {
			t.Fatalf("All of limits that may not be: %v", got)
		}
	}
	if got, want := rhythm.All(asys(200), sample(0, 0), sample(199, 0), sample(200, 0)), begins(2, 200); !slices.Equal(got, want) {
		t.Errorf("All: %v; want %v", got, want)
	}
	// Each one is of a rhythm of its own.
	if got := rhythm.All(usual(), off(1)); !slices.Equal(got, begins(1, 1)) {
		t.Errorf("All: %v", got)
	}
	if got := rhythm.All(usual(), off(2)); !slices.Equal(got, begins(1, 2)) {
		t.Errorf("All once more: %v", got)
	}
}

// P22.1: two rhythms of unlike limits, and two of the same, know nothing of each other.
func TestTwo(t *testing.T) {
	x := noise(17)
	for range 25 {
		one := heldOf(t, x.limits())
		two := heldOf(t, x.limits())
		three := heldOf(t, two.limits)
		first, second := x.rowOf(one.limits, 250), x.rowOf(two.limits, 250)
		for i := range first {
			one.push(t, first[i])
			two.push(t, second[i])
			if i%2 == 0 {
				three.push(t, first[i])
			}
		}
	}
	idle, busy := of(t, quick()), of(t, quick())
	busy.Push(fastOnes(0, 5)...)
	busy.Push(flutter(400, 100, 50)...)
	busy.Push(sample(5000, 100))
	is(t, busy, 2, 3, 4)
	is(t, idle)
	says(t, idle, nil, fastOnes(0, 1)...)
	busy.Push(off(6000))
	is(t, idle)
}

// P22.2: asking, and pushing no mark, changes nothing.
func TestAskingDoesNothing(t *testing.T) {
	x := noise(23)
	for range 20 {
		l := x.limits()
		marks := x.rowOf(l, 300)
		asked, left := of(t, l), of(t, l)
		for i, m := range marks {
			for kind := -2; kind < 9; kind++ {
				asked.On(kind)
			}
			asked.Off()
			asked.Push()
			asked.Push([]api.Mark{}...)
			if got, want := asked.Push(m), left.Push(m); !slices.Equal(got, want) {
				t.Fatalf("mark %d: %v; want %v", i, got, want)
			}
		}
	}
}

// R4: marks that are handed on as a list are as they were behind a call, and so is what lies behind the list's length.
func TestArgumentsStay(t *testing.T) {
	x := noise(31)
	for range 30 {
		l := x.limits()
		room := x.rowOf(l, 200)
		was := slices.Clone(room)
		of(t, l).Push(room[:100]...)
		rhythm.All(l, room[:100]...)
		if !slices.Equal(room, was) {
			t.Fatal("the marks are other ones")
		}
		// What lies behind the length isn't read: it may be anything.
		want := rhythm.All(l, slices.Clip(slices.Clone(room[:100]))...)
		clear(room[100:])
		if got := rhythm.All(l, room[:100]...); !slices.Equal(got, want) {
			t.Fatalf("All: %v; want %v", got, want)
		}
	}
}

// R4: a list of marks that is changed behind the call changes nothing of the rhythm.
func TestArgumentsAreNotKept(t *testing.T) {
	x := noise(37)
	for range 30 {
		l := x.limits()
		marks := x.rowOf(l, 300)
		kept, changed := of(t, l), of(t, l)
		for len(marks) > 0 {
			n := min(x.from(1, 20), int64(len(marks)))
			list := slices.Clone(marks[:n])
			got := changed.Push(list...)
			for i := range list {
				list[i] = api.Mark{Kind: 2, At: most, H: most, Beat: api.Beat{RR: 1}}
			}
			if want := kept.Push(marks[:n]...); !slices.Equal(got, want) {
				t.Fatalf("%v; want %v", got, want)
			}
			marks = marks[n:]
		}
	}
}

// R4: what is answered is new memory: it may be changed, and added to, and neither what stands nor another answer changes.
func TestAnswersAreNew(t *testing.T) {
	x := noise(41)
	for range 30 {
		l := x.limits()
		plain, spoilt := of(t, l), of(t, l)
		var lists, wants []outcome
		for _, m := range x.rowOf(l, 400) {
			want, got := plain.Push(m), spoilt.Push(m)
			if !slices.Equal(got, want) {
				t.Fatalf("%v; want %v", got, want)
			}
			spoil(got)
			lists, wants = append(lists, plain.Push(m)), append(wants, slices.Clone(spoilt.Push(m)))
		}
		for i := range lists {
			if !slices.Equal(lists[i], wants[i]) {
				t.Fatalf("answer %d: %v; want %v", i, lists[i], wants[i])
			}
		}
	}
	marks := fastOnes(0, 5)
	first := rhythm.All(quick(), marks...)
	spoil(first)
	if got := rhythm.All(quick(), marks...); !slices.Equal(got, begins(4, 90)) {
		t.Errorf("All: %v", got)
	}
}

// spoil changes a list, and all that its room has.
func spoil(l outcome) {
	l = l[:cap(l)]
	for i := range l {
		l[i] = api.Cond{Kind: 77, At: -5, On: !l[i].On}
	}
}
