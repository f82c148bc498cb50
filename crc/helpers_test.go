package crc_test

import (
	"math/big"
	"testing"

	"systole/crc"
)

// stepOf is a step of a bit as the chapter words it: the sum moved up, its highest bit going; and turned at the places 12, 5 and 0, where 1021 (in hex) has a 1, if just one of that highest bit and the bit stands.
func stepOf(sum uint16, bit bool) uint16 {
	goes := sum >= 32768
	if goes {
		sum -= 32768
	}
	sum *= 2
	if goes != bit {
		sum ^= 1<<12 | 1<<5 | 1<<0
	}
	return sum
}

// stepsOf is the sum behind a byte's bits, the highest one first.
func stepsOf(sum uint16, b byte) uint16 {
	for value := 128; value > 0; value /= 2 {
		sum = stepOf(sum, int(b)/value%2 == 1)
	}
	return sum
}

// rest is the sum behind some bytes, from a sum on, in another way: what a division leaves of them, as polynomials whose factors are 0 and 1.
func rest(sum uint16, l []byte) uint16 {
	whole := new(big.Int).SetBytes(l)
	whole.Lsh(whole, 16)
	ahead := big.NewInt(int64(sum))
	whole.Xor(whole, ahead.Lsh(ahead, uint(8*len(l))))
	for whole.BitLen() > 16 {
		by := big.NewInt(0x11021)
		whole.Xor(whole, by.Lsh(by, uint(whole.BitLen()-17)))
	}
	return uint16(whole.Uint64())
}

// next goes from a sum on over all bytes.
func next(sum uint16, l ...byte) uint16 {
	for _, b := range l {
		sum = crc.Next(sum, b)
	}
	return sum
}

// sumIs looks at a Sum.
func sumIs(t *testing.T, want uint16, l ...byte) {
	t.Helper()
	if sum := crc.Sum(l...); sum != want {
		t.Fatalf("Sum of % X: %04X; want %04X", l, sum, want)
	}
}

// sealedIs looks at Sealed.
func sealedIs(t *testing.T, want bool, b ...byte) {
	t.Helper()
	if crc.Sealed(b) != want {
		t.Fatalf("Sealed of % X: %t", b, !want)
	}
}

// mixed are bytes of all kinds, the same ones each time.
func mixed(many int) []byte {
	l := make([]byte, many)
	x := uint64(88172645463325252)
	for i := range l {
		x ^= x << 13
		x ^= x >> 7
		x ^= x << 17
		l[i] = byte(x >> 24)
	}
	return l
}

// alike is so many times one byte.
func alike(many int, b byte) []byte {
	l := make([]byte, many)
	for i := range l {
		l[i] = b
	}
	return l
}

// rows are some rows of bytes: none, one, all zeros and all ones, a text, a frame's bytes, and mixed ones.
func rows() [][]byte {
	return [][]byte{
		nil,
		{},
		{0x00},
		{0x01},
		{0x80},
		{0xFF},
		{0x00, 0x00},
		{0xFF, 0xFF},
		{0x12, 0x34},
		alike(7, 0x00),
		alike(7, 0xFF),
		[]byte("123456789"),
		{0x07, 0x01, 0x00, 0xFE, 0xFF},
		mixed(33),
		mixed(100),
	}
}
