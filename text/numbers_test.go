package text_test

import (
	"math/big"
	"regexp"
	"strings"
	"testing"

	"systole/api"
	"systole/text"
)

// P5.1: Num at the edges, written out.
func TestNumWritten(t *testing.T) {
	for _, c := range []struct {
		n    int64
		want string
	}{
		{0, "0"},
		{1, "1"},
		{-1, "-1"},
		{9, "9"},
		{-9, "-9"},
		{10, "10"},
		{-10, "-10"},
		{1000000, "1000000"},
		{-907, "-907"},
		{most, "9223372036854775807"},
		{most - 1, "9223372036854775806"},
		{least, "-9223372036854775808"},
		{least + 1, "-9223372036854775807"},
	} {
		if s := text.Num(c.n); s != c.want {
			t.Errorf("Num of %d: %q; want %q", c.n, s, c.want)
		}
	}
}

// digits is n digit by digit: what a division by ten leaves, from the last one on.
func digits(n int64) string {
	rest, s := new(big.Int).Abs(big.NewInt(n)), ""
	for s == "" || rest.Sign() > 0 {
		left := new(big.Int)
		rest.DivMod(rest, big.NewInt(10), left)
		s = string([]byte{'0' + byte(left.Int64())}) + s
	}
	if n < 0 {
		return "-" + s
	}
	return s
}

// P5.1: Num is the decimal digits of many numbers.
func TestNumIsDigits(t *testing.T) {
	for _, n := range numbers() {
		if s := text.Num(n); s != digits(n) {
			t.Errorf("Num of %d: %q; want %q", n, s, digits(n))
		}
	}
}

// The chapter's example.
func TestReadExample(t *testing.T) {
	readIs(t, "-0", 0, api.ErrForm)
}

// P5.1: Read of what is a number, written out.
func TestReadWritten(t *testing.T) {
	readIs(t, "0", 0, api.OK)
	readIs(t, "1", 1, api.OK)
	readIs(t, "-1", -1, api.OK)
	readIs(t, "9", 9, api.OK)
	readIs(t, "10", 10, api.OK)
	readIs(t, "-10", -10, api.OK)
	readIs(t, "100200300", 100200300, api.OK)
	readIs(t, "-40506", -40506, api.OK)
	readIs(t, "9223372036854775807", most, api.OK)
	readIs(t, "-9223372036854775807", least+1, api.OK)
	readIs(t, "-9223372036854775808", least, api.OK)
}

// P5.1: a number that does not fit 64 bits: one beyond the ends, at powers of two and ten behind which it wraps round, and far beyond.
func TestReadOver(t *testing.T) {
	for _, s := range []string{
		"9223372036854775808",
		"-9223372036854775809",
		"9223372036854775810",
		"-9223372036854775810",
		"9999999999999999999",
		"-9999999999999999999",
		"10000000000000000000",
		"-10000000000000000000",
		"18446744073709551615",
		"18446744073709551616",
		"-18446744073709551616",
		"18446744073709551617",
		"-18446744073709551617",
		"36893488147419103233",
		"340282366920938463463374607431768211457",
		"1" + strings.Repeat("0", 1000),
		"-1" + strings.Repeat("0", 1000),
		strings.Repeat("9", 1<<20),
		"-" + strings.Repeat("1", 1<<20),
	} {
		readIs(t, s, 0, api.ErrOver)
	}
}

// P5.1: what is not of the form: no digit, zeros in front, signs ahead, and other ways to tell numbers.
func TestReadForm(t *testing.T) {
	for _, s := range []string{
		"",
		"-",
		"--",
		"--1",
		"---5",
		"1-",
		"1-1",
		"00",
		"01",
		"-0",
		"-00",
		"-01",
		"007",
		"000000",
		"-0000000000000000000000000001",
		"0000000000000000000000000001",
		"0" + strings.Repeat("9", 30),
		"+",
		"+0",
		"+1",
		"-+1",
		"+-1",
		" ",
		" 1",
		"1 ",
		"1 2",
		" 0",
		"0 ",
		"- 1",
		" -1",
		"-1 ",
		"1\n",
		"\n1",
		"\t1",
		"1\r",
		"1\x00",
		"\x001",
		"1.0",
		"1.",
		".5",
		"1e3",
		"1_000",
		"1,000",
		"0x1f",
		"0b1",
		"0o7",
		"1f",
		"inf",
		"NaN",
		"one",
		"\u0661",
		"1\u0662",
		"\uff11",
		"\u22121",
		"1\xff",
		"\xb2",
	} {
		readIs(t, s, 0, api.ErrForm)
	}
}

// P5.1: each byte that is no digit, at each place of a number, is not of the form; the - is, ahead of all digits alone.
func TestReadNoDigitAtEachPlace(t *testing.T) {
	for _, s := range []string{"1", "12345", "-6789", "9223372036854775807", "-9223372036854775808", strings.Repeat("9", 40)} {
		for place := range len(s) {
			for b := range 256 {
				if b >= '0' && b <= '9' || place == 0 && b == '-' {
					continue
				}
				readIs(t, with(s, place, byte(b)), 0, api.ErrForm)
			}
		}
	}
}

// P5.1: the form is told ahead of the size: many digits, and one sign among them that is none.
func TestReadFormAheadOfOver(t *testing.T) {
	many := strings.Repeat("9", 500)
	for _, ahead := range []string{"", "-"} {
		readIs(t, ahead+many, 0, api.ErrOver)
		for place := range len(many) + 1 {
			for _, sign := range []string{"x", "-", "+", " ", "/", ":", "\n"} {
				if place == 0 && ahead+sign == "-" {
					continue
				}
				readIs(t, ahead+many[:place]+sign+many[place:], 0, api.ErrForm)
			}
		}
	}
	readIs(t, strings.Repeat("9", 1<<20)+"x", 0, api.ErrForm)
}

// P5.1: each text of up to six of these signs, and what they are ahead of a long number, held against the form as an expression, and numbers without an end.
func TestReadAgainstForm(t *testing.T) {
	form := regexp.MustCompile(`\A(?:0|-?[1-9][0-9]*)\z`)
	see := func(s string) {
		if !form.MatchString(s) {
			readIs(t, s, 0, api.ErrForm)
			return
		}
		whole, _ := new(big.Int).SetString(s, 10)
		if !whole.IsInt64() {
			readIs(t, s, 0, api.ErrOver)
			return
		}
		readIs(t, s, whole.Int64(), api.OK)
	}
	texts("-+019 a", 6, see)
	texts("-0129", 4, func(s string) {
		see(s + "223372036854775807")
		see(s + "223372036854775808")
		see(s + "8446744073709551616")
		see("-9223372036854775" + s)
		see("9223372036854775" + s)
	})
}
