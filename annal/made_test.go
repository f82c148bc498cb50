package annal_test

import (
	"testing"

	"systole/annal"
	"systole/api"
)

// P25.1: a new annal has nothing, whatever is asked, and whatever came to others.
func TestNew(t *testing.T) {
	for range 2 {
		a := annal.New()
		if a == nil {
			t.Fatal("New is nil")
		}
		nothing(t, a)
		is(t, a, nil)
		lastsAll(t, a, nil)
		a.Add(row(0, 100)...)
	}
	if annal.New() == annal.New() {
		t.Error("one New is another one")
	}
}

// P25.1, R6: each call of an annal that no call made, that is nil: nothing, 0, false, nil, whatever comes.
func TestNil(t *testing.T) {
	var a *annal.Annal
	for range 2 {
		a.Add()
		a.Add(outs{}...)
		a.Add(api.Out{})
		a.Add(row(0, 3)...)
		a.Add(row(0, 300)...)
		nothing(t, a)
		is(t, a, nil)
		lastsAll(t, a, nil)
		if a.Clone() != nil || a != nil {
			t.Fatal("there is an annal")
		}
	}
	is(t, of(row(0, 2)...), row(0, 2))
}

// nothing looks at an annal to which nothing came.
func nothing(t *testing.T, a *annal.Annal) {
	t.Helper()
	if a.Len() != 0 || a.Dropped() != 0 {
		t.Fatalf("Len %d, Dropped %d", a.Len(), a.Dropped())
	}
	for _, i := range []int{least, least + 1, -64, -1, 0, 1, 2, 63, 64, 65, 1 << 31, 1 << 32, most - 1, most} {
		if o, ok := a.At(i); o != (api.Out{}) || ok {
			t.Fatalf("At(%d): %+v, %v", i, o, ok)
		}
		if l := a.Last(i); len(l) != 0 {
			t.Fatalf("Last(%d): %+v", i, l)
		}
	}
	for kind := -20; kind < 100; kind++ {
		if n := a.Count(kind); n != 0 {
			t.Fatalf("Count(%d): %d", kind, n)
		}
	}
	for _, kind := range otherKinds() {
		if n := a.Count(kind); n != 0 {
			t.Fatalf("Count(%d): %d", kind, n)
		}
	}
}
