package text_test

import (
	"bytes"
	"slices"
	"strings"
	"testing"
	"unsafe"

	"systole/api"
	"systole/text"
)

// P5.4: numbers come back from their texts.
func TestNumbersComeBack(t *testing.T) {
	for _, n := range numbers() {
		readIs(t, text.Num(n), n, api.OK)
	}
}

// P5.4: no other text says the same number: whatever is read is the number's own text.
func TestNoOtherTextOfNumbers(t *testing.T) {
	see := func(s string) {
		if n, e := text.Read(s); e == api.OK && text.Num(n) != s {
			t.Errorf("%q and %q are both %d", s, text.Num(n), n)
		}
	}
	texts("-+0123 ", 5, see)
	for _, n := range numbers() {
		s := text.Num(n)
		for _, other := range []string{"0" + s, "+" + s, " " + s, s + " ", s + ".", "-0" + strings.TrimPrefix(s, "-"), s + "\n"} {
			readIs(t, other, 0, api.ErrForm)
		}
		for place := range len(s) {
			for _, b := range []byte("-+0189 a") {
				see(with(s, place, b))
			}
		}
	}
}

// P5.4: bytes come back from their texts.
func TestBytesComeBack(t *testing.T) {
	unhexIs(t, text.Hex(), nil, api.OK)
	for n := range 1 << 16 {
		l := []byte{byte(n >> 8), byte(n)}
		unhexIs(t, text.Hex(l...), l, api.OK)
		unhexIs(t, text.Hex(l[1]), l[1:], api.OK)
	}
	for many := range 300 {
		l := mixedBytes(many)
		unhexIs(t, text.Hex(l...), l, api.OK)
	}
}

// P5.4: no other text says the same bytes: whatever is taken is the bytes' own text.
func TestNoOtherTextOfBytes(t *testing.T) {
	see := func(s string) {
		if l, e := text.Unhex(s); e == api.OK && text.Hex(l...) != s {
			t.Errorf("%q and %q are both % X", s, text.Hex(l...), l)
		}
	}
	for n := range 1 << 16 {
		see(string([]byte{byte(n), byte(n >> 8)}))
	}
	texts("09afAFG ", 5, see)
}

// comesBack tells whether P5.4 asks that these words come back from Join.
func comesBack(l []string) bool {
	return len(l) == 0 || l[0] != "" && !slices.ContainsFunc(l, func(s string) bool { return strings.Contains(s, " ") })
}

// P5.4: words come back from Join of them: up to five of these, in each order.
func TestWordsComeBack(t *testing.T) {
	kinds := []string{"", "a", "bc", "\n", "\t\u00a0"}
	all := [][]string{nil}
	for range 6 {
		var longer [][]string
		for _, l := range all {
			if comesBack(l) {
				wordsAre(t, text.Join(l...), l...)
			}
			for _, word := range kinds {
				longer = append(longer, append(slices.Clone(l), word))
			}
		}
		all = longer
	}
}

// P5.4 goes so far and no further: words of which the first one is empty, and that are not alone, come back too; one that is empty and alone does not, nor do words with blanks.
func TestWordsThatMayNotComeBack(t *testing.T) {
	wordsAre(t, text.Join("", "a"), "", "a")
	wordsAre(t, text.Join(""))
	wordsAre(t, text.Join("a b"), "a", "b")
}

// P5.3 and P5.4: each text is the Join of its Words, so that no two texts have the same ones.
func TestTextsComeBack(t *testing.T) {
	texts(" a\n", 8, func(s string) {
		joinIs(t, s, text.Words(s)...)
	})
}

// The rule R4: what Unhex answers is new memory, and its list is the caller's.
func TestUnhexIsNewMemory(t *testing.T) {
	const s = "00a5ff"
	l, _ := text.Unhex(s)
	other, _ := text.Unhex(s)
	for i := range other {
		other[i] ^= 0x3C
	}
	other = append(other, 1, 2, 3)
	if !bytes.Equal(l, []byte{0x00, 0xA5, 0xFF}) {
		t.Errorf("behind a change of % X: % X", other, l)
	}
	unhexIs(t, s, []byte{0x00, 0xA5, 0xFF}, api.OK)
}

// The rule R4: what Words and Lines answer is new memory, and each list is the caller's.
func TestListsAreNewMemory(t *testing.T) {
	for _, c := range []struct {
		name string
		call func(string) []string
		s    string
		want []string
	}{
		{"Words", text.Words, "a bc  d", []string{"a", "bc", "", "d"}},
		{"Lines", text.Lines, "a\nbc\n\nd\n", []string{"a", "bc", "", "d"}},
	} {
		l, other := c.call(c.s), c.call(c.s)
		for i := range other {
			other[i] = "changed"
		}
		other = append(other, "more")
		listIs(t, c.name, c.s, l, c.want...)
		listIs(t, c.name, c.s, c.call(c.s), c.want...)
		if len(other) != len(c.want)+1 {
			t.Errorf("%s: %q", c.name, other)
		}
	}
}

// The rule R4: no piece lies within the text that it was taken from; else one that is kept would keep the whole text.
func TestPiecesDoNotKeepTheText(t *testing.T) {
	s := strings.Clone("monitor the\nheart all\nnight")
	from := uintptr(unsafe.Pointer(unsafe.StringData(s)))
	for _, l := range [][]string{text.Words(s), text.Lines(s), text.Words(s[:7]), text.Lines(s[:7])} {
		for _, piece := range l {
			at := uintptr(unsafe.Pointer(unsafe.StringData(piece)))
			if at >= from && at < from+uintptr(len(s)) {
				t.Errorf("%q lies within %q", piece, s)
			}
		}
	}
}

// The rules R4 and R7: lists that are handed in stay as they are, and what lies behind their length is not read.
func TestArgumentsStay(t *testing.T) {
	bytesRoom := []byte{1, 2, 3, 0xAA, 0xBB}
	hexIs(t, "010203", bytesRoom[:3]...)
	if !bytes.Equal(bytesRoom, []byte{1, 2, 3, 0xAA, 0xBB}) {
		t.Errorf("behind Hex what was handed in is % X", bytesRoom)
	}
	room := []string{"a", "", "b", "behind", "it"}
	joinIs(t, "a  b", room[:3]...)
	if !slices.Equal(room, []string{"a", "", "b", "behind", "it"}) {
		t.Errorf("behind Join what was handed in is %q", room)
	}
}

// The rule R4: a text stays as it was, though its bytes' list be changed behind the call, and what was answered stays too.
func TestAnswersStay(t *testing.T) {
	l := []byte{0x12, 0xAB}
	s := text.Hex(l...)
	l[0], l[1] = 0, 0
	if s != "12ab" {
		t.Errorf("behind a change of the bytes: %q", s)
	}
	pieces := []string{"a", "b"}
	s = text.Join(pieces...)
	pieces[0], pieces[1] = "", ""
	if s != "a b" {
		t.Errorf("behind a change of the pieces: %q", s)
	}
}

// The rule R5: the same calls answer the same, whatever was called ahead.
func TestNothingIsKept(t *testing.T) {
	for range 3 {
		readIs(t, "-12", -12, api.OK)
		readIs(t, "99999999999999999999", 0, api.ErrOver)
		readIs(t, "x", 0, api.ErrForm)
		unhexIs(t, "0g", nil, api.ErrForm)
		unhexIs(t, "0f", []byte{0x0F}, api.OK)
		wordsAre(t, "a  b", "a", "", "b")
		linesAre(t, "a\n\nb", "a", "", "b")
		joinIs(t, "a  b", "a", "", "b")
		hexIs(t, "0f", 0x0F)
	}
}
