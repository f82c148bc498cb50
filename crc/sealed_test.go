package crc_test

import (
	"bytes"
	"slices"
	"testing"

	"systole/crc"
)

// P4.2: Seal of some bytes, written out: the lower byte of the sum, then the upper one.
func TestSealWritten(t *testing.T) {
	for _, c := range []struct{ b, want []byte }{
		{nil, []byte{0xFF, 0xFF}},
		{[]byte{}, []byte{0xFF, 0xFF}},
		{[]byte{0x00}, []byte{0x00, 0xF0, 0xE1}},
		{[]byte{0xFF}, []byte{0xFF, 0x00, 0xFF}},
		{[]byte{0xFF, 0xFF}, []byte{0xFF, 0xFF, 0x00, 0x00}},
		{[]byte("A"), []byte{'A', 0x15, 0xB9}},
		{[]byte("123456789"), []byte("123456789\xB1\x29")},
	} {
		if s := crc.Seal(c.b); !bytes.Equal(s, c.want) {
			t.Errorf("Seal of % X: % X; want % X", c.b, s, c.want)
		}
	}
}

// P4.2: what Seal makes is the bytes and their sum, and is Sealed; it may be sealed again.
func TestSealMakesSealed(t *testing.T) {
	for _, b := range rows() {
		s := crc.Seal(b)
		n := len(b)
		if len(s) != n+2 || !bytes.Equal(s[:n], b) {
			t.Fatalf("Seal of % X: % X", b, s)
		}
		if sum := rest(0xFFFF, b); int(s[n])+256*int(s[n+1]) != int(sum) {
			t.Fatalf("behind % X stand % X; the sum is %04X", b, s[n:], sum)
		}
		sealedIs(t, true, s...)
		sealedIs(t, true, crc.Seal(s)...)
	}
}

// P4.2: fewer than two bytes are never sealed.
func TestSealedOfFew(t *testing.T) {
	sealedIs(t, false)
	sealedIs(t, false, []byte{}...)
	for b := range 1 << 8 {
		sealedIs(t, false, byte(b))
	}
}

// P4.2: of two bytes just the sum of none is sealed.
func TestSealedOfTwo(t *testing.T) {
	for n := range 1 << 16 {
		sealedIs(t, n == 0xFFFF, byte(n), byte(n>>8))
	}
}

// P4.2: behind each byte just one pair of bytes seals it.
func TestSealedOfThree(t *testing.T) {
	for _, b := range []byte{0x00, 0x01, 0x80, 0xFF} {
		sum := int(stepsOf(0xFFFF, b))
		for n := range 1 << 16 {
			sealedIs(t, n == sum, b, byte(n), byte(n>>8))
		}
	}
}

// P4.2: sealed bytes of which one is turned, in any way, are not sealed.
func TestOneTurned(t *testing.T) {
	for _, b := range rows() {
		s := crc.Seal(b)
		for i := range s {
			for turn := 1; turn < 1<<8; turn++ {
				s[i] ^= byte(turn)
				sealedIs(t, false, s...)
				s[i] ^= byte(turn)
			}
		}
		sealedIs(t, true, s...)
	}
}

// P4.2: with the last two bytes the other way round they are sealed only where those are alike.
func TestLastTwoRound(t *testing.T) {
	alikeOnes := 0
	for _, b := range rows() {
		s := crc.Seal(b)
		n := len(b)
		s[n], s[n+1] = s[n+1], s[n]
		sealedIs(t, s[n] == s[n+1], s...)
		if s[n] == s[n+1] {
			alikeOnes++
		}
	}
	if alikeOnes == len(rows()) {
		t.Error("all rows' checks are of two bytes that are alike")
	}
}

// P4.2: sealed bytes that are cut off by one, at either end, or have one more, are not sealed.
func TestCutOff(t *testing.T) {
	for _, b := range rows() {
		s := crc.Seal(b)
		sealedIs(t, false, s[:len(s)-1]...)
		sealedIs(t, false, s[1:]...)
		for _, more := range []byte{0x00, 0x01, 0xFF} {
			longer := append(slices.Clone(s), more)
			sealedIs(t, bytes.Equal(longer, crc.Seal(longer[:len(longer)-2])), longer...)
		}
	}
}

// P4.2: cut off at each place, Sealed says what its words say.
func TestCutAnywhere(t *testing.T) {
	s := crc.Seal([]byte("123456789"))
	for n := 2; n < len(s); n++ {
		sealedIs(t, false, s[:n]...)
	}
	l := mixed(300)
	for n := 2; n < len(l); n++ {
		sealedIs(t, bytes.Equal(l[:n], crc.Seal(l[:n-2])), l[:n]...)
	}
}

// The rule R4: what Seal answers is new memory, though there be room behind its argument.
func TestSealIsNewMemory(t *testing.T) {
	within := []byte{1, 2, 3, 4, 5, 6, 7, 8}
	b := within[:3]
	s, other := crc.Seal(b), crc.Seal(b)
	want := slices.Clone(s)
	if !bytes.Equal(within, []byte{1, 2, 3, 4, 5, 6, 7, 8}) {
		t.Fatalf("behind Seal what was handed in is % X", within)
	}
	for i := range other {
		other[i] ^= 0xFF
	}
	other = append(other, 9, 9, 9)
	if !bytes.Equal(within, []byte{1, 2, 3, 4, 5, 6, 7, 8}) || !bytes.Equal(s, want) {
		t.Fatalf("behind a change of % X: % X, % X", other, within, s)
	}
	for i := range within {
		within[i] = 0
	}
	if !bytes.Equal(s, want) {
		t.Fatalf("behind a change of the argument: % X; want % X", s, want)
	}
}

// The rules R4 and R7: nothing that is handed in is changed, what lies behind a list's length is not read, and no byte is none.
func TestArgumentsStay(t *testing.T) {
	for _, l := range rows() {
		room := append(slices.Clone(l), 0xAA, 0xBB, 0xCC)
		before := slices.Clone(room)
		b := room[:len(l)]
		sumIs(t, rest(0xFFFF, l), b...)
		if !bytes.Equal(crc.Seal(b), crc.Seal(l)) || crc.Sealed(b) != crc.Sealed(l) {
			t.Errorf("% X with room behind it answers otherwise", l)
		}
		if !bytes.Equal(room, before) {
			t.Errorf("what was handed in became % X; it was % X", room, before)
		}
	}
}
