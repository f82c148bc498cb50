package text_test

import (
	"encoding/hex"
	"regexp"
	"strings"
	"testing"

	"systole/api"
	"systole/text"
)

// hexIs looks at a Hex.
func hexIs(t *testing.T, want string, l ...byte) {
	t.Helper()
	if s := text.Hex(l...); s != want {
		t.Errorf("Hex of % X: %q; want %q", l, s, want)
	}
}

// P5.2: Hex of none, however none is handed on; and of some, written out.
func TestHexWritten(t *testing.T) {
	hexIs(t, "")
	hexIs(t, "", []byte(nil)...)
	hexIs(t, "", []byte{}...)
	hexIs(t, "00", 0x00)
	hexIs(t, "09", 0x09)
	hexIs(t, "0a", 0x0A)
	hexIs(t, "10", 0x10)
	hexIs(t, "9f", 0x9F)
	hexIs(t, "a0", 0xA0)
	hexIs(t, "ff", 0xFF)
	hexIs(t, "0000", 0, 0)
	hexIs(t, "00a5ff", 0x00, 0xA5, 0xFF)
	hexIs(t, "0123456789abcdef", 0x01, 0x23, 0x45, 0x67, 0x89, 0xAB, 0xCD, 0xEF)
}

// P5.2: Hex of each byte, alone and between others; and of many.
func TestHexOfEach(t *testing.T) {
	for _, b := range allBytes() {
		hexIs(t, hex.EncodeToString([]byte{b}), b)
		hexIs(t, "7e"+hex.EncodeToString([]byte{b})+"01", 0x7E, b, 0x01)
	}
	for _, l := range [][]byte{allBytes(), mixedBytes(1000), mixedBytes(100003)} {
		hexIs(t, hex.EncodeToString(l), l...)
	}
}

// P5.2: Unhex of what is some bytes' Hex, written out; an empty text is that of none.
func TestUnhexWritten(t *testing.T) {
	unhexIs(t, "", nil, api.OK)
	unhexIs(t, "00", []byte{0x00}, api.OK)
	unhexIs(t, "0a", []byte{0x0A}, api.OK)
	unhexIs(t, "a0", []byte{0xA0}, api.OK)
	unhexIs(t, "ff", []byte{0xFF}, api.OK)
	unhexIs(t, "00a5ff", []byte{0x00, 0xA5, 0xFF}, api.OK)
	unhexIs(t, "0123456789abcdef", []byte{0x01, 0x23, 0x45, 0x67, 0x89, 0xAB, 0xCD, 0xEF}, api.OK)
	unhexIs(t, "fedcba9876543210", []byte{0xFE, 0xDC, 0xBA, 0x98, 0x76, 0x54, 0x32, 0x10}, api.OK)
}

// P5.2: an odd number of signs is no bytes, whatever they are.
func TestUnhexOdd(t *testing.T) {
	for _, s := range []string{"0", "f", "g", "000", "abc", "0000f", strings.Repeat("a", 1001)} {
		unhexIs(t, s, nil, api.ErrForm)
	}
}

// P5.2: capitals, blanks, signs ahead, and other ways to tell bytes.
func TestUnhexForm(t *testing.T) {
	for _, s := range []string{
		"0A", "A0", "FF", "fF", "Ff", "00A5FF",
		" 00", "00 ", " 0", "0 ", "00 0", "0 00", "00 ff", "00\n", "0\n",
		"-1", "+1", "0x", "0x1f", "x0", "1.", "1_", "__", "%%", "00,1",
		"0\x00", "\x000", "\xff\xff", "\u0661", "\u00e9", "\uff11f",
	} {
		unhexIs(t, s, nil, api.ErrForm)
	}
}

// P5.2: each byte at each place of a text that is right but there; those just beside 0 to 9 and a to f among them.
func TestUnhexEachSignAtEachPlace(t *testing.T) {
	for _, s := range []string{"00", "9f", "a5c30f"} {
		for place := range len(s) {
			for _, b := range allBytes() {
				other := with(s, place, b)
				if !strings.Contains("0123456789abcdef", string([]byte{b})) {
					unhexIs(t, other, nil, api.ErrForm)
					continue
				}
				want, _ := hex.DecodeString(other)
				unhexIs(t, other, want, api.OK)
			}
		}
	}
	long := strings.Repeat("09af", 40)
	for place := range len(long) {
		for _, b := range []byte("/:`gAFG@ ") {
			unhexIs(t, with(long, place, b), nil, api.ErrForm)
		}
	}
}

// P5.2: each text of two bytes, and each of up to six of these signs, held against the form as an expression.
func TestUnhexAgainstForm(t *testing.T) {
	form := regexp.MustCompile(`\A(?:[0-9a-f][0-9a-f])*\z`)
	see := func(s string) {
		if !form.MatchString(s) {
			unhexIs(t, s, nil, api.ErrForm)
			return
		}
		want, _ := hex.DecodeString(s)
		unhexIs(t, s, want, api.OK)
	}
	for n := range 1 << 16 {
		see(string([]byte{byte(n >> 8), byte(n)}))
	}
	texts("09afAg ", 6, see)
}
