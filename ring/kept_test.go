package ring

import "testing"

// emptied: whatever went, no slot keeps it alive; this looks within, as no call tells it.
func emptied(t *testing.T, what string, r *Ring[*int]) {
	t.Helper()
	kept := 0
	for _, thing := range r.slots {
		if thing != nil {
			kept++
		}
	}
	if kept != r.Len() {
		t.Errorf("%s: %d things are kept, and %d are there", what, kept, r.Len())
	}
}

// What is popped, taken or cleared away is not kept, also where it goes round the ring's end.
func TestKeepsNothingThatWent(t *testing.T) {
	a, b, c, d, f := 1, 2, 3, 4, 5
	r, _ := New[*int](2)
	r.Put(&a, &b, &c, &d)
	r.Pop()
	emptied(t, "Pop", r)
	r.Take(2)
	emptied(t, "Take", r)
	r.Put(&f, &a, &b)
	emptied(t, "Put", r)
	r.Take(3)
	emptied(t, "Take round the end", r)
	r.Put(&c, &d)
	r.Clear()
	emptied(t, "Clear", r)
}
