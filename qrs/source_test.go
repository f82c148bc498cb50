package qrs_test

import (
	"testing"

	"systole/api"
)

// kinds are how many kinds of waves a source has: beats as of a heart, with pauses and what follows a beat; peaks close to all that they are judged by; sums of every step by chance, small, over all that counts, and of any size; and all of these by turns.
const (
	kinds = 6
	mixed = kinds - 1
)

// source hands out waves, the same ones each time. It looks at a reckoning, so that it can come close to where something turns.
type source struct {
	noise
	waits []api.Wave
}

// next is the next wave of a kind.
func (s *source) next(kind int, r *reckoning) api.Wave {
	for len(s.waits) == 0 {
		way := kind
		if kind >= mixed {
			way = int(s.one(0, 0, 1, 1, 1, 2, 3, 4))
		}
		s.more(way, r)
	}
	w := s.waits[0]
	s.waits = s.waits[1:]
	// These play no part.
	w.H, w.E = s.whole(), s.whole()
	return w
}

// more puts some waves to those that wait.
func (s *source) more(way int, r *reckoning) {
	switch way {
	case 0:
		s.heart()
	case 1:
		s.close(r)
	case 2:
		s.put(1+s.upTo(3), s.upTo(600)-20, s.near(0, 50))
	case 3:
		s.put(1+s.upTo(3), s.near(bound/2, bound/2+1000000), s.near(0, steep+1000))
	case 4:
		s.put(1+s.upTo(3), s.whole(), s.whole())
	}
}

// put lets a wave wait, so many times.
func (s *source) put(many, sum, slope int64) {
	for range many {
		s.waits = append(s.waits, api.Wave{W: sum, D: slope})
	}
}

// bump lets a bump wait, behind so many steps of nothing.
func (s *source) bump(quiet, top, slope int64) {
	s.put(quiet, s.one(0, 0, -5, 20), s.near(0, 9))
	if s.upTo(3) == 0 {
		s.put(1, top*2/3, slope/2)
	}
	s.put(1+s.upTo(6), top, slope)
	s.put(1+s.upTo(3), s.one(0, -1, 10), 0)
}

// heart is a beat, what comes of it, or a pause.
func (s *source) heart() {
	top, slope := s.near(3000, 1200), s.near(40, 15)
	s.bump(20+s.upTo(90), top, slope)
	switch s.upTo(6) {
	case 0, 1:
		// What follows a beat: flat, or not so flat.
		s.bump(25+s.upTo(50), top/(1+s.upTo(3)), slope/(1+s.upTo(3)))
	case 2:
		// A low one, which may have to be looked back for.
		s.bump(60+s.upTo(60), top/(3+s.upTo(4)), slope)
	case 3:
		s.put(s.upTo(400), 0, 0)
	}
}

// close is a peak close to all that it is judged by: how far behind the last beat it is, how far behind it is seen, how high it is, and how steep.
func (s *source) close(r *reckoning) {
	place, slope := r.n+s.upTo(60), s.upTo(60)
	if len(r.last) > 0 {
		last := r.last[0]
		place = last.At + s.one(s.near(40, 2), s.near(72, 2), s.near(5*r.mean()/3, 2), 45+s.upTo(150))
		slope = s.one(s.near(last.Steep/2, 1), last.Steep, s.near(last.Steep/2, 1), s.upTo(80))
	}
	upper := upperOf(r.level)
	top := s.one(s.near(upper, 1), s.near(upper/2, 3), s.near(upper*9/16, 40), r.level.Signal, 300+s.upTo(4000))
	if c, ok := r.candidate(); ok && s.upTo(3) == 0 {
		top = s.near(c.Top, 1)
	}
	top = max(top, 100)
	s.put(max(place-r.n, 0), 0, 0)
	s.put(s.one(1, 1, 1, 2, 9), top, slope)
	s.put(1+s.upTo(2), 0, 0)
}

// row lets so many steps of a kind come to a detector.
func (s *source) row(t *testing.T, h *held, kind, many int) {
	t.Helper()
	for range many {
		h.push(t, h.start+h.words.n, s.next(kind, &h.words))
	}
}
