package line

import "testing"

// No more is kept than may be asked for; this looks within, as no call tells it.
func TestKeepsNoMoreThanItTells(t *testing.T) {
	for _, most := range []int{0, 1, 2, 3, 4, 1023, 1024} {
		x, _ := New(most)
		for i := range 3 * (most + 2) {
			x.Push(int64(i))
			if want := min(i+1, most+1); x.past.Len() != want {
				t.Fatalf("of %d values that came a line of %d keeps %d", i+1, most, x.past.Len())
			}
		}
		x.Reset()
		if x.past.Len() != 0 {
			t.Fatalf("behind Reset a line of %d keeps %d", most, x.past.Len())
		}
	}
}
