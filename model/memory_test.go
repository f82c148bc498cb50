package model_test

import (
	"slices"
	"testing"

	"systole/api"
	"systole/model"
)

// spoil changes a list, and all that its room has.
func spoil[T any](l []T, other T) {
	l = l[:cap(l)]
	for i := range l {
		l[i] = other
	}
}

// What lists are spoilt with.
var (
	otherItem  = api.Item{Kind: 4, At: most, V: 30000}
	otherMark  = api.Mark{Kind: 2, At: most, H: most, Beat: api.Beat{At: -5, Seen: -5, RR: 1, Back: true}}
	otherEvent = api.Event{Kind: 2, At: most, Sample: api.Sample{V: -30000, Off: true}}
	otherOrder = api.Order{At: 3, Kind: 2, N: 7}
	otherOut   = api.Out{Kind: 77, At: -5, Alarm: 9, N: -1}
)

// withRoom is the same list, with room behind it that has another thing in it, and a copy of all that.
func withRoom[T any](l []T, other T) ([]T, []T) {
	room := append(slices.Clone(l), slices.Repeat([]T{other}, 9)...)
	return room[:len(l)], slices.Clone(room)
}

// stay looks that a list, and its room, is as it was.
func stay[T comparable](t *testing.T, l, was []T) {
	t.Helper()
	if !slices.Equal(l[:len(was)], was) {
		t.Fatal("what was handed in is another one")
	}
}

// R4: lists that are handed in are as they were behind a call, also what lies behind their lengths, which plays no part.
func TestHandedIn(t *testing.T) {
	x := noise(67)
	for range 12 {
		l := x.limits()
		e, o := x.rowOf(1500), x.orders(40, 0, 1500)
		itemized, marked := itemsOf(e), x.marks(l, 400)

		some, was := withRoom(itemized, otherItem)
		alike(t, detector(t, l.Mains).Push(some...), detector(t, l.Mains).Push(slices.Clip(itemized)...))
		stay(t, some, was)

		more, were := withRoom(marked, otherMark)
		alike(t, judge(t, l).Push(dueOf(o), more...), judge(t, l).Push(dueOf(o), slices.Clip(marked)...))
		stay(t, more, were)

		row, rowWas := withRoom(e, otherEvent)
		list, listWas := withRoom(o, otherOrder)
		alike(t, model.Marks(l.Mains, row...), model.Marks(l.Mains, slices.Clip(e)...))
		alike(t, model.Run(l, list, row...), model.Run(l, slices.Clip(o), slices.Clip(e)...))
		stay(t, row, rowWas)
		stay(t, list, listWas)
	}
}

// R4: what is told as due is neither kept nor changed: the list, and its room, is as it was, and may be changed behind.
func TestDueListsStay(t *testing.T) {
	x := noise(71)
	for range 20 {
		l := x.limits()
		row := x.marks(l, 400)
		plain, spoilt := judge(t, l), judge(t, l)
		for _, m := range row {
			o := x.orders(x.one(0, 0, 1, 3), 0, 100)
			list, was := withRoom(o, otherOrder)
			got, want := spoilt.Push(all(list...), m), plain.Push(all(o...), m)
			alike(t, got, want)
			stay(t, list, was)
			spoil(list, api.Order{Kind: 1})
			spoil(o, api.Order{Kind: 2, N: 50})
		}
	}
}

// R4: lists that are changed behind the call change nothing.
func TestListsAreNotKept(t *testing.T) {
	x := noise(73)
	for range 12 {
		l := x.limits()
		said := itemsOf(x.rowOf(1500))
		d, kept := detector(t, l.Mains), detector(t, l.Mains)
		for part := range slices.Chunk(said, int(x.from(1, 300))) {
			list := slices.Clone(part)
			got := d.Push(list...)
			spoil(list, otherItem)
			alike(t, got, kept.Push(part...))
		}
		j, same := judge(t, l), judge(t, l)
		for part := range slices.Chunk(x.marks(l, 800), int(x.from(1, 100))) {
			list := slices.Clone(part)
			got := j.Push(none, list...)
			spoil(list, otherMark)
			alike(t, got, same.Push(none, part...))
		}
		is(t, j, signs(same))
	}
}

// R4: what is answered is new memory each time: it may be changed, and added to, and neither what stands nor another answer changes.
func TestAnswersAreNew(t *testing.T) {
	x := noise(79)
	for range 10 {
		l := x.limits()
		d, plain := detector(t, l.Mains), detector(t, l.Mains)
		var lists, wants []marks
		for part := range slices.Chunk(itemsOf(x.rowOf(1500)), 7) {
			got, want := d.Push(part...), plain.Push(part...)
			alike(t, got, want)
			lists, wants = append(lists, want), append(wants, slices.Clone(want))
			spoil(got, otherMark)
		}
		for i := range lists {
			alike(t, lists[i], wants[i])
			spoil(lists[i], otherMark)
		}

		j, same := judge(t, l), judge(t, l)
		var said, was []outs
		for part := range slices.Chunk(x.marks(l, 800), 5) {
			o := x.orders(2, 0, 100)
			got, want := j.Push(all(o...), part...), same.Push(all(o...), part...)
			alike(t, got, want)
			said, was = append(said, want), append(was, slices.Clone(want))
			spoil(got, otherOut)
		}
		for i := range said {
			alike(t, said[i], was[i])
			spoil(said[i], otherOut)
		}

		e, o := x.rowOf(1200), x.orders(30, 0, 1200)
		marked, all := model.Marks(l.Mains, e...), model.Run(l, o, e...)
		markedWas, allWas := slices.Clone(marked), slices.Clone(all)
		spoil(model.Marks(l.Mains, e...), otherMark)
		spoil(model.Run(l, o, e...), otherOut)
		alike(t, marked, markedWas)
		alike(t, all, allWas)
		spoil(marked, otherMark)
		spoil(all, otherOut)
		alike(t, model.Marks(l.Mains, e...), markedWas)
		alike(t, model.Run(l, o, e...), allWas)
	}
}
