package order_test

import (
	"math/big"
	"regexp"
	"strings"
	"testing"

	"systole/api"
	"systole/order"
)

// noOrder looks at a Read of a text that is no line: ErrForm, whatever is wrong, and nothing beside it.
func noOrder(t *testing.T, s string) {
	t.Helper()
	if o, e := order.Read(s); o != (api.Order{}) || e != api.ErrForm {
		t.Errorf("Read of %.60q: %v, %d", s, o, e)
	}
}

// form is that of a line, but for how great its numbers are.
var form = regexp.MustCompile(`\A(0|[1-9][0-9]*) (?:ack|silence ([1-9][0-9]*))\z`)

// isLine says whether a text is an order's line, by its form, and by numbers of any length.
func isLine(s string) (api.Order, bool) {
	m := form.FindStringSubmatch(s)
	if m == nil {
		return api.Order{}, false
	}
	at, _ := new(big.Int).SetString(m[1], 10)
	if at.Cmp(big.NewInt(maxAt)) > 0 {
		return api.Order{}, false
	}
	if m[2] == "" {
		return ack(at.Int64()), true
	}
	n, _ := new(big.Int).SetString(m[2], 10)
	if n.Cmp(big.NewInt(longest)) > 0 {
		return api.Order{}, false
	}
	return silence(at.Int64(), n.Int64()), true
}

// seeText looks at a Read of any text, and whether it is a line; of a line, that it is told again.
func seeText(t *testing.T, s string) bool {
	t.Helper()
	want, ok := isLine(s)
	if !ok {
		noOrder(t, s)
		return false
	}
	if o, e := order.Read(s); o != want || e != api.OK {
		t.Errorf("Read of %.60q: %v, %d; want %v", s, o, e, want)
	}
	if line, e := order.Line(want); line != s || e != api.OK {
		t.Errorf("Line of %v: %q, %d; want %q", want, line, e, s)
	}
	return true
}

// P24.1: too few words, and too many; blanks where there are none, and none where there is one; other white signs.
func TestReadWords(t *testing.T) {
	for _, s := range []string{
		"", " ", "  ", "   ", "          ",
		"5", "ack", "silence", "0", "400", "a",
		"5 5", "ack 5", "silence 5", "ack ack", "5 silence", "0 silence", "400 silence", "5 raise", "6000 400",
		"5 ack 1", "5 ack 0", "0 ack 0", "5 ack ack", "5 6 ack", "ack 5 6", "5 6 silence", "silence 5 6", "5 5 5", "5 silence silence", "5 silence ack", "400 silence ack", "400 ack silence",
		"5 ack 1 1", "5 silence 6 7", "5 silence 6 silence", "5 silence 6 ack", "5 ack 6 ack", "5 silence silence 6", "5 5 silence 6", "5 ack 5 silence 6", "5 silence 6 7 8", "5 ack ack ack ack",
		" 5 ack", "5 ack ", " 5 ack ", "5  ack", "  5 ack", "5 ack  ", "5   ack",
		" 5 silence 6", "5 silence 6 ", "5  silence 6", "5 silence  6", "5  silence  6", "  5 silence 6", "5 silence 6  ", "5 silence ", "5  6", " silence 6", " ack", "ack ", "  ack",
		"5\tack", "\t5 ack", "5 ack\t", "5 ack\n", "\n5 ack", "5\nack", "5 ack\r", "5\rack", "5 ack\r\n", "5\vack", "5\fack", "5\x00ack", "5 ack\x00", "5\u00a0ack", "5\u2003ack", "5\u0085ack",
		"5\tsilence\t6", "5 silence\t6", "5\tsilence 6", "5 silence\n6", "5 silence 6\n", "5 silence 6\t", "5 silence \t6", "5 \tsilence 6", "5\u00a0silence 6",
		"5 ack\n6 ack", "5 ack 6 ack",
		"5ack", "5silence6", "5silence 6", "5 silence6", "5-ack", "5_ack", "5,ack", "5, ack", "5: ack", "\"5 ack\"",
	} {
		seeText(t, s)
		noOrder(t, s)
	}
}

// P24.1: numbers that are told in another way, or that may not be: ErrForm, and no error of the numbers' own.
func TestReadNumbers(t *testing.T) {
	great := []string{
		"9223372036854775807", "9223372036854775808", "9223372036854775809", "18446744073709551615", "18446744073709551616", "18446744073709551617", "18446744073709551621",
		"10000000000000000000", "99999999999999999999", "100000000000000000000000000000000000000", strings.Repeat("9", 1000),
	}
	odd := []string{
		"", "00", "05", "005", "00000000000000000000005", "+5", "+0", "-0", "-00", "-05", "-5", "-1", "--5", "- 5", "-", "+",
		"5.", "5.0", ".5", "5e0", "1e3", "0x5", "0b1", "0o5", "5_0", "1,000", "5 ", " 5", "5-", "a", "x5", "5x", "five", "\u0665", "\uff15", "\u00b2", "-9223372036854775808", "-9223372036854775809", "NaN", "inf",
	}
	for _, s := range append(append([]string{"1099511627777", "1099511627778", "1099511627786", "10995116277760", "2199023255552", "4294967296000000"}, great...), odd...) {
		noOrder(t, s)
		noOrder(t, s+" ack")
		noOrder(t, s+" silence 6")
		noOrder(t, s+" silence 24001")
	}
	for _, s := range append(append([]string{"0", "24001", "24002", "24010", "240000", "65537", "4294967297", "4294967302", "1099511627776"}, great...), odd...) {
		noOrder(t, "5 silence "+s)
		noOrder(t, "0 silence "+s)
		noOrder(t, "5 ack "+s)
		noOrder(t, "1099511627776 silence "+s)
		noOrder(t, "1099511627777 silence "+s)
	}
}

// P24.1: words with other letters.
func TestReadOtherWords(t *testing.T) {
	for _, s := range []string{
		"Ack", "ACK", "aCk", "acK", "ac", "a", "ck", "ackk", "aack", "acks", "acknowledge", "kca", "a ck", "ack.", "ack!", "-ack", "\u0430ck", "ack\u0301", "1", "clear", "raise", "escalate", "OrAck", "ask", "bck", "adk", "acj", "acl",
	} {
		noOrder(t, "5 "+s)
		noOrder(t, "5 "+s+" 6")
	}
	for _, s := range []string{
		"Silence", "SILENCE", "silencE", "silenc", "silen", "s", "ilence", "silencee", "ssilence", "silences", "silenced", "silent", "si lence", "silence.", "-silence", "s\u0131lence", "silen\u00e7e", "sound", "OrSilence", "quiet", "rilence", "silencf", "silencd",
	} {
		noOrder(t, "5 "+s)
		noOrder(t, "5 "+s+" 6")
	}
}

// P24.1: each byte at each place of a line, instead of what stands there and between; and each byte of it left out: most of that is no line.
func TestReadEachByteAtEachPlace(t *testing.T) {
	for _, line := range []string{"0 ack", "5 ack", "1099511627776 ack", "1000000000000 ack", "400 silence 6000", "0 silence 1", "1099511627776 silence 24000", "1000000000000 silence 9999"} {
		lines := 0
		for place := range len(line) + 1 {
			for b := range 256 {
				sign := string([]byte{byte(b)})
				if seeText(t, line[:place]+sign+line[place:]) {
					lines++
				}
				if place < len(line) && seeText(t, line[:place]+sign+line[place+1:]) {
					lines++
				}
			}
			if place < len(line) {
				seeText(t, line[:place]+line[place+1:])
				seeText(t, line[:place])
				seeText(t, line[place:])
			}
		}
		if lines < len(line) {
			t.Errorf("%q: %d lines", line, lines)
		}
	}
}

// P24.1: each text of up to five pieces, held against the form.
func TestReadPieces(t *testing.T) {
	pieces := []string{" ", "  ", "0", "5", "1", "05", "-1", "24000", "24001", "1099511627776", "1099511627777", "9223372036854775808", "ack", "silence", "\t", "x"}
	lines := 0
	var walk func(s string, left int)
	walk = func(s string, left int) {
		if seeText(t, s) {
			lines++
		}
		if left == 0 {
			return
		}
		for _, p := range pieces {
			walk(s+p, left-1)
		}
	}
	walk("", 5)
	if lines < 100 {
		t.Errorf("%d lines", lines)
	}
}

// P24.1: long texts, those among them that are just longer than the longest line.
func TestReadLong(t *testing.T) {
	signs := []string{" ", "0", "5", "9", "a", "ack", "silence", " ack", "5 ", "5 ack ", "5 silence 6 ", "\n", "\x00", "\xff"}
	for _, n := range []int{26, 27, 28, 29, 100, 1000, 1 << 14} {
		for _, s := range signs {
			long := strings.Repeat(s, n/len(s)+1)
			noOrder(t, long)
			noOrder(t, long+" ack")
			noOrder(t, long+"5 ack")
			noOrder(t, long+" silence 6")
			noOrder(t, "5 ack"+long)
			noOrder(t, "5"+long+"ack")
			noOrder(t, "5 "+long)
			noOrder(t, "5 "+long+" 6")
			noOrder(t, "5 silence"+long)
			noOrder(t, "5 silence "+long)
			noOrder(t, "5 silence "+long+"6")
		}
	}
	for _, s := range signs {
		long := strings.Repeat(s, 1<<20/len(s))
		noOrder(t, long)
		noOrder(t, "5 ack"+long)
	}
}

// P24.1: bytes that are no text.
func TestReadNoText(t *testing.T) {
	for _, s := range []string{"\xff", "\xff\xfe", "\xc3", "5 \xff", "\xff ack", "5 ack\xff", "5\xff ack", "5 ac\xff", "5 a\xc3\xa7k", "5 silence \xff", "5 silence 6\xff", "5 silence\xff 6", "5\xc2\xa0ack", "\xef\xbb\xbf5 ack", "\x00", "\x00 \x00", "5 \x00ack"} {
		noOrder(t, s)
	}
	x := noise(3)
	for range 100000 {
		b := make([]byte, x.upTo(40))
		for i := range b {
			b[i] = byte(x.upTo(256))
			if x.upTo(3) == 0 {
				b[i] = "05 ackilens"[x.upTo(11)]
			}
		}
		seeText(t, string(b))
	}
}

// P24.3: each line is read as the order that it was made of, and no other text is read as that one.
func TestReadBack(t *testing.T) {
	x := noise(5)
	for range 20000 {
		o := x.right(x.one(0, x.upTo(maxAt)), x.one(100, maxAt))
		line, e := order.Line(o)
		if e != api.OK || !seeText(t, line) {
			t.Fatalf("Line of %v: %q, %d", o, line, e)
		}
		words := strings.Split(line, " ")
		for i := range words {
			for _, ahead := range []string{"0", "+", "-", " ", "\t", "-0"} {
				other := append([]string(nil), words...)
				other[i] = ahead + other[i]
				noOrder(t, strings.Join(other, " "))
			}
		}
		noOrder(t, line+" ")
		noOrder(t, line+"\n")
		noOrder(t, line+" 1")
	}
}
