package impl

import (
	"iter"
	"strings"
)

// Pos is a place in a text: a line and a column, both counted from 0.
type Pos struct {
	Line int
	Col  int
}

// Edit replaces the bytes from one offset to another one by a text.
type Edit struct {
	From   int
	To     int
	Insert string
}

// MaxText is the greatest length of a text.
const MaxText = 2000

// byteOffset is an offset in a text, kept apart from lengths and columns.
type byteOffset int

// TextValid reports whether s is a text.
func TextValid(s string) bool {
	if len(s) > MaxText {
		return false
	}
	for i := range len(s) {
		if !textByte(s[i]) {
			return false
		}
	}
	return true
}

func textByte(c byte) bool {
	return c == '\n' || ' ' <= c && c <= '~'
}

// EditValid reports whether e is an edit of s.
func EditValid(s string, e Edit) bool {
	return e.fits(s)
}

// ApplyEdit applies an edit to a text.
func ApplyEdit(s string, e Edit) (string, bool) {
	if !e.fits(s) {
		return "", false
	}
	return e.applied(s), true
}

// InvertEdit returns the edit that undoes an edit.
func InvertEdit(s string, e Edit) (Edit, bool) {
	if !e.fits(s) {
		return Edit{}, false
	}
	return e.inverse(s), true
}

// ComposeEdits returns an edit that does what two edits do.
func ComposeEdits(s string, e Edit, f Edit) (Edit, bool) {
	middle, ok := ApplyEdit(s, e)
	if !ok {
		return Edit{}, false
	}
	end, ok := ApplyEdit(middle, f)
	if !ok {
		return Edit{}, false
	}
	return DiffEdit(s, end)
}

// DiffEdit returns the smallest edit that makes one text of another one.
func DiffEdit(a string, b string) (Edit, bool) {
	if !TextValid(a) || !TextValid(b) {
		return Edit{}, false
	}
	head := commonBeginning(a, b)
	// Without the beginning, so that no byte counts for both.
	tail := commonEnd(a[head:], b[head:])
	return Edit{From: head, To: len(a) - tail, Insert: b[head : len(b)-tail]}, true
}

// MoveOffset returns where an offset goes when an edit is applied.
func MoveOffset(s string, e Edit, offset int) (int, bool) {
	at := byteOffset(offset)
	if !e.fits(s) || !at.within(s) {
		return 0, false
	}
	moved, ok := e.moved(at)
	return int(moved), ok
}

// PosOf returns the place of an offset.
func PosOf(s string, offset int) (Pos, bool) {
	at := byteOffset(offset)
	if !TextValid(s) || !at.within(s) {
		return Pos{}, false
	}
	return at.placeIn(s), true
}

// OffsetOf returns the offset of a place.
func OffsetOf(s string, p Pos) (int, bool) {
	if !TextValid(s) {
		return 0, false
	}
	number := 0
	for start, line := range linesIn(s) {
		if number == p.Line {
			return p.offsetAfter(start, line)
		}
		number++
	}
	return 0, false
}

// LinesOf returns the lines of a text.
func LinesOf(s string) []string {
	if !TextValid(s) {
		return nil
	}
	var lines []string
	for _, line := range linesIn(s) {
		lines = append(lines, line)
	}
	return lines
}

// linesIn yields the lines of s, each with the offset at which it begins.
func linesIn(s string) iter.Seq2[byteOffset, string] {
	return func(yield func(byteOffset, string) bool) {
		start := byteOffset(0)
		for line := range strings.SplitSeq(s, "\n") {
			if !yield(start, line) {
				return
			}
			start += byteOffset(len(line) + len("\n"))
		}
	}
}

// fits compares the offsets with s before they are subtracted, so that
// no difference overflows.
func (e Edit) fits(s string) bool {
	return TextValid(s) && TextValid(e.Insert) &&
		0 <= e.From && e.From <= e.To && e.To <= len(s) &&
		len(s)+e.growth() <= MaxText
}

// growth is negative if more bytes are removed than inserted.
func (e Edit) growth() int {
	return len(e.Insert) - (e.To - e.From)
}

func (e Edit) applied(s string) string {
	return s[:e.From] + e.Insert + s[e.To:]
}

func (e Edit) inverse(s string) Edit {
	return Edit{From: e.From, To: e.From + len(e.Insert), Insert: s[e.From:e.To]}
}

// moved returns false for an offset whose byte is removed.
func (e Edit) moved(at byteOffset) (byteOffset, bool) {
	switch {
	case at < byteOffset(e.From):
		return at, true
	case at < byteOffset(e.To):
		return 0, false
	}
	return at + byteOffset(e.growth()), true
}

// within accepts the end of s, where there is no byte.
func (at byteOffset) within(s string) bool {
	return 0 <= at && at <= byteOffset(len(s))
}

func (at byteOffset) placeIn(s string) Pos {
	before := s[:at]
	lineStart := strings.LastIndexByte(before, '\n') + 1
	return Pos{Line: strings.Count(before, "\n"), Col: len(before) - lineStart}
}

// offsetAfter returns the offset of the column of p in a line that begins at start.
func (p Pos) offsetAfter(start byteOffset, line string) (int, bool) {
	if p.Col < 0 || p.Col > len(line) {
		return 0, false
	}
	return int(start) + p.Col, true
}

func commonBeginning(a string, b string) int {
	n := 0
	for n < len(a) && n < len(b) && a[n] == b[n] {
		n++
	}
	return n
}

func commonEnd(a string, b string) int {
	n := 0
	for n < len(a) && n < len(b) && a[len(a)-1-n] == b[len(b)-1-n] {
		n++
	}
	return n
}
