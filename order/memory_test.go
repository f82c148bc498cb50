package order_test

import (
	"slices"
	"testing"

	"systole/api"
	"systole/order"
)

// R4: what is handed in is as it was, also what lies behind a list's length, which plays no part.
func TestHandedIn(t *testing.T) {
	x := noise(31)
	for range 200 {
		var all orders
		for range 40 {
			all = append(all, x.right(x.upTo(50), 50))
		}
		x.shuffle(all)
		before := slices.Clone(all)
		n := int(x.upTo(40))
		a, b := order.New(), order.New()
		many, e := a.Put(all[:n]...)
		if !slices.Equal(all, before) {
			t.Fatal("the list is another one")
		}
		clear(all[n:])
		puts(t, b, many, e, all[:n:n]...)
		dues(t, b, a.Due(30), 30)
		dues(t, b, a.Due(maxAt), maxAt)
		if !slices.Equal(all[:n], before[:n]) {
			t.Fatal("the list is another one")
		}
	}
}

// spoil changes a list, and all that its room has.
func spoil(l orders) {
	l = l[:cap(l)]
	for i := range l {
		l[i] = api.Order{At: -5, Kind: 77, N: -1}
	}
}

// R4: lists that are changed behind the call change nothing; and what is answered is new memory: it may be changed, and added to, and neither what waits nor another answer changes.
func TestListsAreNotKept(t *testing.T) {
	x := noise(37)
	for range 50 {
		plain, spoilt := order.New(), order.New()
		var lists, wants []orders
		for _, d := range x.rowOf(400) {
			e := deed{slices.Clone(d.puts), d.at}
			n, err, want := d.of(plain)
			m, err2, got := e.of(spoilt)
			if m != n || err2 != err || !slices.Equal(got, want) {
				t.Fatalf("%+v: %d, %d, %v; want %d, %d, %v", d, m, err2, got, n, err, want)
			}
			spoil(e.puts)
			lists, wants = append(lists, want), append(wants, slices.Clone(want))
			spoil(got)
		}
		for i := range lists {
			if !slices.Equal(lists[i], wants[i]) {
				t.Fatalf("answer %d: %v; want %v", i, lists[i], wants[i])
			}
			spoil(lists[i])
		}
	}
}

// R4: a clone's answers are its own, too.
func TestClonesAnswers(t *testing.T) {
	a := of(t, -1, row(5, 20)...)
	b := a.Clone()
	first := a.Due(14)
	spoil(b.Due(14))
	if !slices.Equal(first, row(5, 10)) {
		t.Errorf("%v", first)
	}
	spoil(first)
	dues(t, b, row(5, 20)[10:], 30)
	dues(t, a, row(5, 20)[10:], 30)
}

// R5: the same calls in the same order answer the same.
func TestSame(t *testing.T) {
	x := noise(41)
	for range 20 {
		row := x.rowOf(300)
		var lists []orders
		var manys []int
		for round := range 3 {
			q := order.New()
			for i, d := range row {
				many, _, l := d.of(q)
				if round == 0 {
					lists, manys = append(lists, l), append(manys, many)
				} else if many != manys[i] || !slices.Equal(l, lists[i]) {
					t.Fatalf("round %d, %+v: %d, %v; want %d, %v", round, d, many, l, manys[i], lists[i])
				}
			}
		}
	}
}

// P24.2: asking, cloning, and orders of none change nothing.
func TestAskingDoesNothing(t *testing.T) {
	x := noise(13)
	for range 20 {
		asked, left := order.New(), order.New()
		for _, d := range x.rowOf(300) {
			asked.Len()
			asked.From()
			asked.Clone().Due(maxAt)
			asked.Clone().Put(row(maxAt-40, room)...)
			asked.Put()
			asked.Due(-1)
			asked.Put(api.Order{})
			n, e, want := d.of(left)
			m, e2, got := d.of(asked)
			if m != n || e2 != e || !slices.Equal(got, want) {
				t.Fatalf("%+v: %d, %d, %v; want %d, %d, %v", d, m, e2, got, n, e, want)
			}
		}
	}
}
