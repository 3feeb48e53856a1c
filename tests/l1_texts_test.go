package tests

import (
	"math"
	"slices"
	"strings"
	"testing"

	"loop.example/livetyper/impl"
)

// longest is a text of exactly MaxText bytes with several lines.
var longest = strings.Repeat("x = (1+2)\n", impl.MaxText/10)

// textsUpTo returns all strings of at most n of the bytes of alphabet.
func textsUpTo(alphabet string, n int) []string {
	all := []string{""}
	for begin, length := 0, 0; length < n; length++ {
		end := len(all)
		for _, s := range all[begin:end] {
			for i := range len(alphabet) {
				all = append(all, s+alphabet[i:i+1])
			}
		}
		begin = end
	}
	return all
}

// editsOf returns all edits of s that insert one of the texts.
func editsOf(s string, inserts []string) []impl.Edit {
	var list []impl.Edit
	for from := 0; from <= len(s); from++ {
		for to := from; to <= len(s); to++ {
			for _, insert := range inserts {
				list = append(list, impl.Edit{From: from, To: to, Insert: insert})
			}
		}
	}
	return list
}

// badEdits are edits that are valid for no text of at most 10 bytes.
func badEdits() []impl.Edit {
	return []impl.Edit{
		{From: -1, To: 0},
		{From: -1, To: -1},
		{From: 2, To: 1},
		{From: 0, To: 11},
		{From: 11, To: 11},
		{From: 11, To: 10},
		{From: math.MinInt, To: math.MaxInt},
		{From: math.MaxInt, To: math.MaxInt},
		{From: math.MinInt, To: 0},
		{From: 0, To: math.MinInt},
		{From: 0, To: math.MaxInt},
		{Insert: "\t"},
		{Insert: "a\x00"},
		{Insert: "\x7f"},
		{Insert: "\xc3\xa9"},
		{Insert: longest + "x"},
	}
}

func TestTextValid(t *testing.T) {
	if len(longest) != impl.MaxText {
		t.Fatalf("the longest text has %d bytes", len(longest))
	}
	for _, s := range []string{"", "\n", "\n\n", "x = 1", longest, strings.Repeat("\n", impl.MaxText)} {
		if !impl.TextValid(s) {
			t.Errorf("TextValid(%.20q) = false", s)
		}
	}
	for _, s := range []string{longest + "\n", longest + longest, "x\r\n", "é", "x\xff"} {
		if impl.TextValid(s) {
			t.Errorf("TextValid(%.20q) = true", s)
		}
	}
	for c := range 256 {
		want := c == '\n' || c >= ' ' && c <= '~'
		for _, s := range []string{string([]byte{byte(c)}), string([]byte{'a', byte(c)}), string([]byte{byte(c), 'a'})} {
			if impl.TextValid(s) != want {
				t.Errorf("TextValid(%q) = %v", s, !want)
			}
		}
	}
}

func TestEditValid(t *testing.T) {
	s := "x = 1\ny"
	for _, e := range editsOf(s, []string{"", "z", "\n", " ~"}) {
		if !impl.EditValid(s, e) {
			t.Errorf("EditValid(%q, %v) = false", s, e)
		}
	}
	for _, e := range badEdits() {
		if impl.EditValid(s, e) {
			t.Errorf("EditValid(%q, %.20v) = true", s, e)
		}
	}
	for _, bad := range []string{"\t", "a\x80", longest + "x"} {
		if impl.EditValid(bad, impl.Edit{}) || impl.EditValid(bad, impl.Edit{To: len(bad)}) {
			t.Errorf("EditValid accepts %.20q", bad)
		}
	}
}

func TestEditValidLength(t *testing.T) {
	n := impl.MaxText
	cases := []struct {
		s    string
		e    impl.Edit
		want bool
	}{
		{longest, impl.Edit{From: n, To: n}, true},
		{longest, impl.Edit{From: n, To: n, Insert: "a"}, false},
		{longest, impl.Edit{From: n - 1, To: n, Insert: "a"}, true},
		{longest, impl.Edit{From: n - 1, To: n, Insert: "ab"}, false},
		{longest, impl.Edit{From: 0, To: 0, Insert: "a"}, false},
		{longest, impl.Edit{From: 0, To: n, Insert: longest}, true},
		{longest, impl.Edit{From: 1, To: n, Insert: longest}, false},
		{longest, impl.Edit{From: n, To: n + 1}, false},
		{longest[1:], impl.Edit{From: 5, To: 5, Insert: "a"}, true},
		{longest[1:], impl.Edit{From: 5, To: 5, Insert: "ab"}, false},
		{"", impl.Edit{Insert: longest}, true},
		{"a", impl.Edit{Insert: longest}, false},
		{"a", impl.Edit{To: 1, Insert: longest}, true},
	}
	for i, c := range cases {
		if impl.EditValid(c.s, c.e) != c.want {
			t.Errorf("case %d: EditValid = %v", i, !c.want)
		}
		x, ok := impl.ApplyEdit(c.s, c.e)
		if ok != c.want || ok && len(x) > n || !ok && x != "" {
			t.Errorf("case %d: ApplyEdit = %d bytes, %v", i, len(x), ok)
		}
	}
}

func TestApplyEdit(t *testing.T) {
	cases := []struct {
		s    string
		e    impl.Edit
		want string
	}{
		{"", impl.Edit{}, ""},
		{"", impl.Edit{Insert: "a\n"}, "a\n"},
		{"abc", impl.Edit{From: 0, To: 0, Insert: "x"}, "xabc"},
		{"abc", impl.Edit{From: 3, To: 3, Insert: "x"}, "abcx"},
		{"abc", impl.Edit{From: 1, To: 2}, "ac"},
		{"abc", impl.Edit{From: 1, To: 2, Insert: "xyz"}, "axyzc"},
		{"abc", impl.Edit{From: 2, To: 3, Insert: ""}, "ab"},
		{"abc", impl.Edit{From: 0, To: 3, Insert: "\n"}, "\n"},
	}
	for _, c := range cases {
		if x, ok := impl.ApplyEdit(c.s, c.e); !ok || x != c.want {
			t.Errorf("ApplyEdit(%q, %v) = %q, %v", c.s, c.e, x, ok)
		}
	}
}

func TestInvertEdit(t *testing.T) {
	cases := []struct {
		s       string
		e, want impl.Edit
	}{
		{"", impl.Edit{}, impl.Edit{}},
		{"abc", impl.Edit{From: 1, To: 2, Insert: "xyz"}, impl.Edit{From: 1, To: 4, Insert: "b"}},
		{"abc", impl.Edit{From: 3, To: 3, Insert: "d"}, impl.Edit{From: 3, To: 4}},
		{"abc", impl.Edit{From: 0, To: 3}, impl.Edit{From: 0, To: 0, Insert: "abc"}},
		// The inverse is not the smallest edit: it puts back all that was removed.
		{"abc", impl.Edit{From: 0, To: 3, Insert: "abc"}, impl.Edit{From: 0, To: 3, Insert: "abc"}},
	}
	for _, c := range cases {
		if x, ok := impl.InvertEdit(c.s, c.e); !ok || x != c.want {
			t.Errorf("InvertEdit(%q, %v) = %v, %v", c.s, c.e, x, ok)
		}
	}
	e := impl.Edit{From: 0, To: impl.MaxText, Insert: "a"}
	back, ok := impl.InvertEdit(longest, e)
	if s, fine := impl.ApplyEdit("a", back); !ok || !fine || s != longest {
		t.Errorf("the longest text is not put back: %v, %v", ok, fine)
	}
}

// TestEditsAreUndone checks the first half of promise 1 for all small texts and edits.
func TestEditsAreUndone(t *testing.T) {
	for _, s := range textsUpTo("a\n", 4) {
		for _, e := range editsOf(s, textsUpTo("ab", 2)) {
			x, ok := impl.ApplyEdit(s, e)
			if !ok {
				t.Fatalf("ApplyEdit(%q, %v) is refused", s, e)
			}
			back, ok := impl.InvertEdit(s, e)
			if y, fine := impl.ApplyEdit(x, back); !ok || !fine || y != s {
				t.Errorf("InvertEdit(%q, %v) = %v, %v", s, e, back, ok)
			}
			if again, ok := impl.InvertEdit(x, back); !ok || again != e {
				t.Errorf("%v inverted twice in %q = %v, %v", e, s, again, ok)
			}
		}
	}
}

// TestEditsAreComposed checks the second half of promise 1 for all small texts and edits.
func TestEditsAreComposed(t *testing.T) {
	for _, s := range textsUpTo("a\n", 3) {
		for _, e := range editsOf(s, textsUpTo("ab", 1)) {
			middle, _ := impl.ApplyEdit(s, e)
			for _, f := range editsOf(middle, textsUpTo("a\n", 1)) {
				end, _ := impl.ApplyEdit(middle, f)
				c, ok := impl.ComposeEdits(s, e, f)
				if x, fine := impl.ApplyEdit(s, c); !ok || !fine || x != end {
					t.Errorf("ComposeEdits(%q, %v, %v) = %v, %v", s, e, f, c, ok)
				}
				if d, fine := impl.DiffEdit(s, end); !fine || c != d {
					t.Errorf("ComposeEdits(%q, %v, %v) = %v, not %v", s, e, f, c, d)
				}
			}
		}
	}
}

func TestComposeEditsRefuses(t *testing.T) {
	n := impl.MaxText
	grow := impl.Edit{From: 3, To: 3, Insert: "de"}
	cases := []struct {
		s    string
		e, f impl.Edit
		want bool
	}{
		// The second edit is one of the text after the first one, not of s.
		{"abc", grow, impl.Edit{From: 4, To: 5}, true},
		{"abc", grow, impl.Edit{From: 4, To: 6}, false},
		{"abc", impl.Edit{From: 0, To: 3}, impl.Edit{From: 2, To: 3}, false},
		{"abc", impl.Edit{From: 0, To: 4}, impl.Edit{}, false},
		{"ab\t", impl.Edit{From: 2, To: 3}, impl.Edit{}, false},
		{"abc", impl.Edit{Insert: "\t"}, impl.Edit{From: 0, To: 1}, false},
		{"abc", impl.Edit{}, impl.Edit{Insert: "\t"}, false},
		// No text on the way may be too long, even if the last one is not.
		{longest, impl.Edit{Insert: "a"}, impl.Edit{From: 0, To: 1}, false},
		{longest[1:], impl.Edit{Insert: "a"}, impl.Edit{From: 0, To: 0, Insert: "b"}, false},
		{longest, impl.Edit{From: 0, To: n}, impl.Edit{Insert: longest}, true},
	}
	for i, c := range cases {
		x, ok := impl.ComposeEdits(c.s, c.e, c.f)
		if ok != c.want || !ok && x != (impl.Edit{}) {
			t.Errorf("case %d: ComposeEdits = %v, %v", i, x, ok)
		}
	}
}

func TestDiffEdit(t *testing.T) {
	cases := []struct {
		a, b string
		want impl.Edit
	}{
		{"x = 1", "x = 12", impl.Edit{From: 5, To: 5, Insert: "2"}},
		{"", "", impl.Edit{}},
		{"", "ab", impl.Edit{Insert: "ab"}},
		{"ab", "", impl.Edit{To: 2}},
		{"abc", "abc", impl.Edit{From: 3, To: 3}},
		{"abc", "xbc", impl.Edit{From: 0, To: 1, Insert: "x"}},
		{"abc", "axc", impl.Edit{From: 1, To: 2, Insert: "x"}},
		{"abc", "xyz", impl.Edit{From: 0, To: 3, Insert: "xyz"}},
		{"a\nb", "a\n\nb", impl.Edit{From: 2, To: 2, Insert: "\n"}},
		// A byte of the common beginning is not one of the common end too.
		{"aaa", "aa", impl.Edit{From: 2, To: 3}},
		{"aa", "aaa", impl.Edit{From: 2, To: 2, Insert: "a"}},
		{"aba", "aa", impl.Edit{From: 1, To: 2}},
		{"aba", "ababa", impl.Edit{From: 3, To: 3, Insert: "ba"}},
		{"ababa", "aba", impl.Edit{From: 3, To: 5}},
		{"abab", "abxab", impl.Edit{From: 2, To: 2, Insert: "x"}},
		{longest, longest[1:], impl.Edit{From: 0, To: 1}},
	}
	for _, c := range cases {
		if x, ok := impl.DiffEdit(c.a, c.b); !ok || x != c.want {
			t.Errorf("DiffEdit(%.20q, %.20q) = %v, %v", c.a, c.b, x, ok)
		}
	}
	for _, bad := range []string{"\t", "a\x7f", longest + "x"} {
		for _, pair := range [][2]string{{bad, "a"}, {"a", bad}, {bad, bad}} {
			if x, ok := impl.DiffEdit(pair[0], pair[1]); ok || x != (impl.Edit{}) {
				t.Errorf("DiffEdit(%.20q, %.20q) = %v, %v", pair[0], pair[1], x, ok)
			}
		}
	}
}

// TestDiffEditSmallest compares DiffEdit with all edits that make b of a.
func TestDiffEditSmallest(t *testing.T) {
	texts := textsUpTo("ab", 4)
	for _, a := range texts {
		for _, b := range texts {
			d, ok := impl.DiffEdit(a, b)
			if x, fine := impl.ApplyEdit(a, d); !ok || !fine || x != b {
				t.Fatalf("DiffEdit(%q, %q) = %v, %v", a, b, d, ok)
			}
			for from := d.From; from <= len(a); from++ {
				for to := from; to <= len(a); to++ {
					fits := strings.HasPrefix(b, a[:from]) && strings.HasSuffix(b, a[to:]) && from+len(a)-to <= len(b)
					if fits && (from > d.From || to < d.To) {
						t.Errorf("DiffEdit(%q, %q) = %v, but %d to %d is enough", a, b, d, from, to)
					}
				}
			}
		}
	}
}

func TestMoveOffset(t *testing.T) {
	s := "abcdef"
	cases := []struct {
		e            impl.Edit
		offset, want int
		ok           bool
	}{
		{impl.Edit{From: 2, To: 4, Insert: "xyz"}, 0, 0, true},
		{impl.Edit{From: 2, To: 4, Insert: "xyz"}, 1, 1, true},
		{impl.Edit{From: 2, To: 4, Insert: "xyz"}, 2, 0, false},
		{impl.Edit{From: 2, To: 4, Insert: "xyz"}, 3, 0, false},
		{impl.Edit{From: 2, To: 4, Insert: "xyz"}, 4, 5, true},
		{impl.Edit{From: 2, To: 4, Insert: "xyz"}, 6, 7, true},
		{impl.Edit{From: 2, To: 4}, 4, 2, true},
		// A byte where something is inserted moves behind it, and so does the end.
		{impl.Edit{From: 2, To: 2, Insert: "x"}, 1, 1, true},
		{impl.Edit{From: 2, To: 2, Insert: "x"}, 2, 3, true},
		{impl.Edit{From: 6, To: 6, Insert: "x"}, 5, 5, true},
		{impl.Edit{From: 6, To: 6, Insert: "x"}, 6, 7, true},
		{impl.Edit{From: 0, To: 6}, 0, 0, false},
		{impl.Edit{From: 0, To: 6}, 5, 0, false},
		{impl.Edit{From: 0, To: 6}, 6, 0, true},
		// An equal byte in the same place is another one.
		{impl.Edit{From: 2, To: 3, Insert: "c"}, 2, 0, false},
		{impl.Edit{}, -1, 0, false},
		{impl.Edit{}, 7, 0, false},
		{impl.Edit{}, math.MinInt, 0, false},
		{impl.Edit{}, math.MaxInt, 0, false},
	}
	for _, c := range cases {
		if n, ok := impl.MoveOffset(s, c.e, c.offset); n != c.want || ok != c.ok {
			t.Errorf("MoveOffset(%q, %v, %d) = %d, %v", s, c.e, c.offset, n, ok)
		}
	}
	if n, ok := impl.MoveOffset("", impl.Edit{Insert: "abc"}, 0); n != 3 || !ok {
		t.Errorf("MoveOffset in the empty text = %d, %v", n, ok)
	}
	if n, ok := impl.MoveOffset(longest, impl.Edit{Insert: "a"}, 5); n != 0 || ok {
		t.Errorf("MoveOffset with a result that is too long = %d, %v", n, ok)
	}
}

// TestMovedBytes moves each byte through each edit of a text of different bytes.
func TestMovedBytes(t *testing.T) {
	s := "abcd"
	for _, e := range editsOf(s, []string{"", "x", "xyz"}) {
		x, _ := impl.ApplyEdit(s, e)
		for i := range len(s) {
			want := strings.IndexByte(x, s[i])
			n, ok := impl.MoveOffset(s, e, i)
			if ok != (want >= 0) || n != max(want, 0) {
				t.Errorf("MoveOffset(%q, %v, %d) = %d, %v", s, e, i, n, ok)
			}
		}
		if n, ok := impl.MoveOffset(s, e, len(s)); !ok || n != len(x) {
			t.Errorf("MoveOffset(%q, %v, end) = %d, %v", s, e, n, ok)
		}
	}
}

// TestBadEdits checks that every function refuses what is not an edit of the text.
func TestBadEdits(t *testing.T) {
	s := "x = 1\ny"
	type input struct {
		s string
		e impl.Edit
	}
	list := []input{{"\t", impl.Edit{}}, {"a\x80", impl.Edit{}}, {longest + "x", impl.Edit{}}, {longest, impl.Edit{Insert: "a"}}}
	for _, e := range badEdits() {
		list = append(list, input{s, e})
	}
	for i, in := range list {
		if x, ok := impl.ApplyEdit(in.s, in.e); ok || x != "" {
			t.Errorf("input %d: ApplyEdit = %.20q, %v", i, x, ok)
		}
		if x, ok := impl.InvertEdit(in.s, in.e); ok || x != (impl.Edit{}) {
			t.Errorf("input %d: InvertEdit = %.20v, %v", i, x, ok)
		}
		if x, ok := impl.ComposeEdits(in.s, in.e, impl.Edit{}); ok || x != (impl.Edit{}) {
			t.Errorf("input %d: ComposeEdits = %.20v, %v", i, x, ok)
		}
		if x, ok := impl.ComposeEdits(in.s, impl.Edit{}, in.e); ok || x != (impl.Edit{}) {
			t.Errorf("input %d: ComposeEdits with a bad second edit = %.20v, %v", i, x, ok)
		}
		if n, ok := impl.MoveOffset(in.s, in.e, 1); ok || n != 0 {
			t.Errorf("input %d: MoveOffset = %d, %v", i, n, ok)
		}
	}
}

func TestPlaces(t *testing.T) {
	s := "\nab\n\nc"
	want := []impl.Pos{{Line: 0, Col: 0}, {Line: 1, Col: 0}, {Line: 1, Col: 1}, {Line: 1, Col: 2}, {Line: 2, Col: 0}, {Line: 3, Col: 0}, {Line: 3, Col: 1}}
	for i, p := range want {
		if q, ok := impl.PosOf(s, i); !ok || q != p {
			t.Errorf("PosOf(%d) = %v, %v", i, q, ok)
		}
		if n, ok := impl.OffsetOf(s, p); !ok || n != i {
			t.Errorf("OffsetOf(%v) = %d, %v", p, n, ok)
		}
	}
	for _, offset := range []int{-1, 7, math.MinInt, math.MaxInt} {
		if p, ok := impl.PosOf(s, offset); ok || p != (impl.Pos{}) {
			t.Errorf("PosOf(%d) = %v, %v", offset, p, ok)
		}
	}
	for _, p := range []impl.Pos{{Line: 0, Col: 1}, {Line: 1, Col: 3}, {Line: 2, Col: 1}, {Line: 3, Col: 2}, {Line: 4}, {Line: -1}, {Line: 1, Col: -1}, {Line: math.MinInt, Col: math.MinInt}, {Line: math.MaxInt, Col: 0}, {Line: 3, Col: math.MaxInt}, {Line: 1, Col: math.MinInt}} {
		if n, ok := impl.OffsetOf(s, p); ok || n != 0 {
			t.Errorf("OffsetOf(%v) = %d, %v", p, n, ok)
		}
	}
}

// TestPlacesOfAllTexts checks that PosOf and OffsetOf are inverse, and that no other place exists.
func TestPlacesOfAllTexts(t *testing.T) {
	for _, s := range append(textsUpTo("a\n", 5), longest) {
		places := map[impl.Pos]bool{}
		for offset := 0; offset <= len(s); offset++ {
			p, ok := impl.PosOf(s, offset)
			if n, fine := impl.OffsetOf(s, p); !ok || !fine || n != offset || places[p] {
				t.Fatalf("PosOf(%.20q, %d) = %v, %v, and OffsetOf %d, %v", s, offset, p, ok, n, fine)
			}
			places[p] = true
		}
		for line := -1; line <= 6; line++ {
			for col := -1; col <= 12; col++ {
				p := impl.Pos{Line: line, Col: col}
				if n, ok := impl.OffsetOf(s, p); ok != places[p] || !ok && n != 0 {
					t.Errorf("OffsetOf(%.20q, %v) = %d, %v", s, p, n, ok)
				}
			}
		}
	}
}

func TestPlacesOfBadTexts(t *testing.T) {
	for _, bad := range []string{"\t", "a\x80", "a\n\r", longest + "x"} {
		if p, ok := impl.PosOf(bad, 1); ok || p != (impl.Pos{}) {
			t.Errorf("PosOf(%.20q) = %v, %v", bad, p, ok)
		}
		if n, ok := impl.OffsetOf(bad, impl.Pos{Col: 1}); ok || n != 0 {
			t.Errorf("OffsetOf(%.20q) = %d, %v", bad, n, ok)
		}
		if l := impl.LinesOf(bad); len(l) != 0 {
			t.Errorf("LinesOf(%.20q) = %.20q", bad, l)
		}
	}
}

func TestLinesOf(t *testing.T) {
	cases := []struct {
		s    string
		want []string
	}{
		{"", []string{""}},
		{"a", []string{"a"}},
		{"\n", []string{"", ""}},
		{"a\n", []string{"a", ""}},
		{"\na", []string{"", "a"}},
		{"a\n\nb c", []string{"a", "", "b c"}},
	}
	for _, c := range cases {
		if l := impl.LinesOf(c.s); !slices.Equal(l, c.want) {
			t.Errorf("LinesOf(%q) = %q", c.s, l)
		}
	}
	for _, s := range append(textsUpTo("a\n", 6), longest, strings.Repeat("\n", impl.MaxText)) {
		l := impl.LinesOf(s)
		if len(l) != strings.Count(s, "\n")+1 || strings.Join(l, "\n") != s {
			t.Errorf("LinesOf(%.20q) has %d lines", s, len(l))
		}
	}
}

// TestLinesOfIsNew checks that a change of one result is not seen in another one.
func TestLinesOfIsNew(t *testing.T) {
	first := impl.LinesOf("a\nb")
	first[0] = "x"
	_ = append(first[:1], "y")
	if l := impl.LinesOf("a\nb"); !slices.Equal(l, []string{"a", "b"}) {
		t.Errorf("LinesOf = %q", l)
	}
}
