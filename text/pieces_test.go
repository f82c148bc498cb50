package text_test

import (
	"strings"
	"testing"

	"systole/text"
)

// wordsAre looks at a Words.
func wordsAre(t *testing.T, s string, want ...string) {
	t.Helper()
	listIs(t, "Words", s, text.Words(s), want...)
}

// linesAre looks at a Lines.
func linesAre(t *testing.T, s string, want ...string) {
	t.Helper()
	listIs(t, "Lines", s, text.Lines(s), want...)
}

// The chapter's example.
func TestWordsExample(t *testing.T) {
	wordsAre(t, "a  b", "a", "", "b")
}

// P5.3: Words of nothing, of blanks alone, and of blanks ahead, behind, and one behind the other.
func TestWordsWritten(t *testing.T) {
	wordsAre(t, "")
	wordsAre(t, " ", "", "")
	wordsAre(t, "  ", "", "", "")
	wordsAre(t, "a", "a")
	wordsAre(t, "abc", "abc")
	wordsAre(t, " a", "", "a")
	wordsAre(t, "a ", "a", "")
	wordsAre(t, " a ", "", "a", "")
	wordsAre(t, " a b ", "", "a", "b", "")
	wordsAre(t, "a b", "a", "b")
	wordsAre(t, "a   b", "a", "", "", "b")
	wordsAre(t, "   ab  ", "", "", "", "ab", "", "")
	wordsAre(t, "order 500 silence 50", "order", "500", "silence", "50")
}

// P5.3: only blanks part words: no other byte does, alone or between.
func TestWordsOnlyBlanksPart(t *testing.T) {
	for _, b := range allBytes() {
		s := string([]byte{b})
		if s == " " {
			continue
		}
		wordsAre(t, s, s)
		wordsAre(t, "a"+s+"b", "a"+s+"b")
		wordsAre(t, s+" "+s, s, s)
	}
	wordsAre(t, "a\tb\nc\u00a0d\u2003e \u3000", "a\tb\nc\u00a0d\u2003e", "\u3000")
	wordsAre(t, "\xe2\x82 \xac", "\xe2\x82", "\xac")
}

// P5.3: Lines of nothing, of ends alone, and with and without an end behind the last one.
func TestLinesWritten(t *testing.T) {
	linesAre(t, "")
	linesAre(t, "\n", "")
	linesAre(t, "\n\n", "", "")
	linesAre(t, "\n\n\n", "", "", "")
	linesAre(t, "a", "a")
	linesAre(t, "a\n", "a")
	linesAre(t, "a\n\n", "a", "")
	linesAre(t, "\na", "", "a")
	linesAre(t, "\na\n", "", "a")
	linesAre(t, "a\nb", "a", "b")
	linesAre(t, "a\nb\n", "a", "b")
	linesAre(t, "a\n\nb", "a", "", "b")
	linesAre(t, "a\n\n\nb\n\n", "a", "", "", "b", "")
	linesAre(t, "start\nwaits\n", "start", "waits")
	linesAre(t, " ", " ")
	linesAre(t, "\n ", "", " ")
}

// P5.3: only the byte 10 ends a line: no other byte does, alone or between.
func TestLinesOnlyTenEnds(t *testing.T) {
	for _, b := range allBytes() {
		s := string([]byte{b})
		if s == "\n" {
			continue
		}
		linesAre(t, s, s)
		linesAre(t, "a"+s+"b\n"+s, "a"+s+"b", s)
		linesAre(t, s+"\n", s)
	}
	linesAre(t, "a\r\nb\u0085c\u2028d", "a\r", "b\u0085c\u2028d")
	linesAre(t, "\xe2\x82\n\xac", "\xe2\x82", "\xac")
}

// P5.3: each text of up to seven of these signs, held against what stands between all ends.
func TestPiecesAgainstSplit(t *testing.T) {
	texts(" \na\r", 7, func(s string) {
		if s == "" {
			wordsAre(t, s)
			linesAre(t, s)
			return
		}
		wordsAre(t, s, strings.Split(s, " ")...)
		linesAre(t, s, strings.Split(strings.TrimSuffix(s, "\n"), "\n")...)
	})
}

// P5.3: a great many pieces, and long ones.
func TestManyPieces(t *testing.T) {
	const many = 1 << 18
	l := make([]string, many)
	for i := range l {
		l[i] = strings.Repeat("x", i%5)
	}
	wordsAre(t, strings.Join(l, " "), l...)
	linesAre(t, strings.Join(l, "\n")+"\n", l...)
	joinIs(t, strings.Join(l, " "), l...)
	long := strings.Repeat("long", many)
	wordsAre(t, long+" "+long, long, long)
	linesAre(t, long+"\n"+long, long, long)
}

// P5.3: Join of none, of one, of many, and of empty pieces; what is in a piece does not count.
func TestJoinWritten(t *testing.T) {
	joinIs(t, "")
	joinIs(t, "", []string(nil)...)
	joinIs(t, "", []string{}...)
	joinIs(t, "", "")
	joinIs(t, " ", "", "")
	joinIs(t, "  ", "", "", "")
	joinIs(t, "a", "a")
	joinIs(t, "a b", "a", "b")
	joinIs(t, "a  b", "a", "", "b")
	joinIs(t, " a", "", "a")
	joinIs(t, "a ", "a", "")
	joinIs(t, "12 raise lead", "12", "raise", "lead")
	joinIs(t, "  \n ", " ", "\n", "")
	joinIs(t, "\xff \x00", "\xff", "\x00")
}
