package frame_test

import (
	"bytes"
	"reflect"
	"slices"
	"testing"

	"systole/api"
	"systole/crc"
	"systole/frame"
)

// madeOf is a frame's bytes as the chapter words them.
func madeOf(seq byte, l ...api.Sample) []byte {
	b := []byte{0xA5, 0x5A, seq, byte(len(l))}
	for _, s := range l {
		value := (int(s.V) + 65536) % 65536
		off := 0
		if s.Off {
			off = 1
		}
		b = append(b, byte(off), byte(value%256), byte(value/256))
	}
	return summed(b)
}

// summed puts the sum of all bytes but the first two behind them.
func summed(b []byte) []byte {
	sum := int(crc.Sum(b[2:]...))
	return append(slices.Clone(b), byte(sum%256), byte(sum/256))
}

// lookedAt is Look as the chapter words it: byte by byte, from the first one on, till a fault or the last byte.
func lookedAt(b []byte) (api.Frame, int, api.Errno) {
	var f api.Frame
	size := 6
	for i := 0; i < size; i++ {
		if i == len(b) {
			return api.Frame{}, 0, api.ErrShort
		}
		n := int(b[i])
		switch {
		case i == 0 && n != 0xA5, i == 1 && n != 0x5A:
			return api.Frame{}, 0, api.ErrSync
		case i == 2:
			f.Seq = b[i]
		case i == 3 && (n < 1 || n > 32):
			return api.Frame{}, 0, api.ErrSize
		case i == 3:
			f.L = make([]api.Sample, n)
			size += 3 * n
		case i > 3 && i < size-2:
			s := &f.L[(i-4)/3]
			switch (i - 4) % 3 {
			case 0:
				if n > 1 {
					return api.Frame{}, 0, api.ErrFlag
				}
				s.Off = n == 1
			case 1:
				s.V = int32(n)
			case 2:
				s.V += int32(256 * n)
				if n >= 128 {
					s.V -= 65536
				}
			}
		case i == size-1 && int(crc.Sum(b[2:i-1]...)) != 256*n+int(b[i-1]):
			return api.Frame{}, 0, api.ErrCrc
		}
	}
	return f, size, api.OK
}

// makeIs looks at a Make.
func makeIs(t *testing.T, want []byte, seq byte, l ...api.Sample) {
	t.Helper()
	b, e := frame.Make(seq, l...)
	if e != api.OK || !bytes.Equal(b, want) {
		t.Fatalf("Make of %d, %v: % X, %d; want % X", seq, l, b, e, want)
	}
	if n := frame.Size(len(l)); n != len(b) {
		t.Fatalf("Size of %d: %d; Make made %d bytes", len(l), n, len(b))
	}
}

// makeIsRefused looks at a Make of what may not be.
func makeIsRefused(t *testing.T, seq byte, l ...api.Sample) {
	t.Helper()
	b, e := frame.Make(seq, l...)
	if e != api.ErrArg || len(b) != 0 {
		t.Fatalf("Make of %d, %v: % X, %d; want ErrArg", seq, l, b, e)
	}
}

// lookIs looks at a Look that finds a frame.
func lookIs(t *testing.T, b []byte, n int, seq byte, l ...api.Sample) {
	t.Helper()
	f, got, e := frame.Look(b)
	if e != api.OK || got != n || f.Seq != seq || !slices.Equal(f.L, l) {
		t.Fatalf("Look at % X: %v, %d, %d; want %d, %v, %d", b, f, got, e, seq, l, n)
	}
}

// faultIs looks at a Look that finds a fault.
func faultIs(t *testing.T, want api.Errno, b ...byte) {
	t.Helper()
	f, n, e := frame.Look(b)
	if e != want || n != 0 || f.Seq != 0 || len(f.L) != 0 {
		t.Fatalf("Look at % X: %v, %d, %d; want the fault %d", b, f, n, e, want)
	}
}

// lookIsLookedAt holds Look against the chapter's words.
func lookIsLookedAt(t *testing.T, b []byte) {
	t.Helper()
	f, n, e := frame.Look(b)
	wantF, wantN, wantE := lookedAt(b)
	if e != wantE || n != wantN || !reflect.DeepEqual(f, wantF) {
		t.Fatalf("Look at % X: %v, %d, %d; want %v, %d, %d", b, f, n, e, wantF, wantN, wantE)
	}
}

// with is b with another byte at a place.
func with(b []byte, place int, n byte) []byte {
	other := slices.Clone(b)
	other[place] = n
	return other
}

// mixed are samples of all kinds, the same ones each time.
func mixed(many int) []api.Sample {
	l := make([]api.Sample, many)
	x := uint64(88172645463325252)
	for i := range l {
		x ^= x << 13
		x ^= x >> 7
		x ^= x << 17
		l[i] = api.Sample{V: int32(int16(x >> 24)), Off: x>>40&1 == 1}
	}
	return l
}

// alike is so many times one sample.
func alike(many int, s api.Sample) []api.Sample {
	return slices.Repeat([]api.Sample{s}, many)
}

// frames are some frames' bytes: of few samples and of many, with the least, the greatest, and the frame's own first bytes in them.
func frames() [][]byte {
	return [][]byte{
		madeOf(0, api.Sample{}),
		madeOf(7, api.Sample{V: -2}),
		madeOf(255, api.Sample{V: 32767, Off: true}, api.Sample{V: -32768}),
		madeOf(0xA5, api.Sample{V: 0x5AA5}, api.Sample{V: 0x5AA5, Off: true}, api.Sample{V: -0x5AA6}),
		madeOf(0x5A, alike(8, api.Sample{V: -1, Off: true})...),
		madeOf(100, mixed(31)...),
		madeOf(254, mixed(32)...),
		madeOf(1, alike(32, api.Sample{})...),
	}
}

// tails is what may stand behind a frame.
func tails() [][]byte {
	return [][]byte{
		nil,
		{},
		{0x00},
		{0xFF},
		{0xA5},
		{0xA5, 0x5A},
		{0xA5, 0x5A, 0x08, 0x00},
		madeOf(8, api.Sample{V: 3}),
		make([]byte, 200),
	}
}
