package annal_test

import (
	"slices"
	"testing"

	"systole/annal"
	"systole/api"
)

// P25.1: a clone of an annal in each state answers the same, and from then on neither knows of what comes to the other.
func TestClone(t *testing.T) {
	for _, many := range amounts() {
		all := row(0, many)
		a := of(all...)
		b, c := a.Clone(), a.Clone()
		if b == nil || b == a || b == c {
			t.Fatal("a clone is not another one")
		}
		for _, one := range []*annal.Annal{a, b, c} {
			is(t, one, all)
			lastsAll(t, one, all)
		}
		for _, more := range []int{1, 2, 63, 64, 65, 150} {
			a, b := a.Clone(), a.Clone()
			b.Add(row(9000, more)...)
			is(t, a, all)
			lasts(t, a, room, end(all))
			both := slices.Concat(all, row(9000, more))
			is(t, b, both)
			a.Add(row(7000, 3)...)
			is(t, b, both)
			lasts(t, b, room, end(both))
			is(t, a, slices.Concat(all, row(7000, 3)))
		}
		is(t, a, all)
		is(t, c, all)
		// The one that it was made of goes on, far beyond the room.
		a.Add(row(5000, 200)...)
		is(t, b, all)
		lastsAll(t, c, all)
	}
}

// P25.1: a clone of a new annal is as a new one; and a clone's clone is as good.
func TestCloneOfClone(t *testing.T) {
	a := annal.New().Clone().Clone()
	nothing(t, a)
	a.Add(row(0, 70)...)
	b := a.Clone()
	c := b.Clone()
	b.Add(api.Out{Kind: 4})
	a.Add(row(100, 10)...)
	is(t, c, row(0, 70))
	c.Add(row(70, 5)...)
	is(t, c, row(0, 75))
	is(t, b, append(row(0, 70), api.Out{Kind: 4}))
	is(t, a, slices.Concat(row(0, 70), row(100, 10)))
	is(t, c.Clone().Clone(), row(0, 75))
}

// P25.1: in the midst of long rows a clone goes its own way, held against words of its own, and so does what it was made of.
func TestCloneRows(t *testing.T) {
	x := noise(7)
	for range 20 {
		one := heldNew()
		for range 40 {
			one.add(t, x.some(x.size()))
			two := one.clone()
			two.look(t)
			for range 4 {
				two.add(t, x.some(x.size()))
				one.look(t)
			}
			two = one.clone()
			if x.upTo(2) == 0 {
				one, two = two, one
				two.look(t)
			}
		}
	}
}

// P25.1: two annals side by side know nothing of each other.
func TestTwo(t *testing.T) {
	x := noise(11)
	one, two := annal.New(), annal.New()
	one.Add(row(0, 100)...)
	nothing(t, two)
	two.Add(row(500, 3)...)
	is(t, one, row(0, 100))
	is(t, two, row(500, 3))
	for range 20 {
		one, two := heldNew(), heldNew()
		for range 50 {
			one.add(t, x.some(x.size()))
			two.look(t)
			two.add(t, x.some(x.size()))
			one.look(t)
		}
	}
}
