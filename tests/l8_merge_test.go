package tests

import (
	"fmt"
	"math/rand"
	"slices"
	"strings"
	"testing"

	"loop.example/livetyper/impl"
)

// removes reports whether e removes the byte at an offset.
func removes(e impl.Edit, at int) bool {
	return e.From <= at && at < e.To
}

// splits reports whether e inserts between two bytes that f removes.
func splits(e, f impl.Edit) bool {
	return e.From == e.To && removes(f, e.From-1) && removes(f, e.From)
}

// plainClash looks at each byte of a text of this length.
func plainClash(length int, e, f impl.Edit) bool {
	for at := range length {
		if removes(e, at) && removes(f, at) {
			return true
		}
	}
	return splits(e, f) || splits(f, e)
}

// plainMerge goes through s once: in front of each byte stands what is inserted there by edits
// that remove nothing, in their order, and then what stands in place of the bytes from there on.
func plainMerge(s string, list ...impl.Edit) string {
	var out strings.Builder
	for at := 0; at <= len(s); at++ {
		kept := at < len(s)
		instead := ""
		for _, e := range list {
			if e.From == at && e.To == at {
				out.WriteString(e.Insert)
			} else if e.From == at {
				instead += e.Insert
			}
			kept = kept && !removes(e, at)
		}
		out.WriteString(instead)
		if kept {
			out.WriteByte(s[at])
		}
	}
	return out.String()
}

// edit is an impl.Edit in one line of a table.
func edit(from, to int, insert string) impl.Edit {
	return impl.Edit{From: from, To: to, Insert: insert}
}

// shown returns the beginning of a list of edits, where long texts are cut off.
func shown(list ...impl.Edit) string {
	out := ""
	for _, e := range list[:min(len(list), 6)] {
		out += fmt.Sprintf("{%d %d %.20q}", e.From, e.To, e.Insert)
	}
	return out
}

// applied applies an edit that must be valid.
func applied(t *testing.T, s string, e impl.Edit) string {
	t.Helper()
	x, ok := impl.ApplyEdit(s, e)
	if !ok {
		t.Fatalf("ApplyEdit(%.20q, %s) is refused", s, shown(e))
	}
	return x
}

// checkOrders checks promise 8 for two edits that do not clash, of which e is the first one.
func checkOrders(t *testing.T, s string, e, f impl.Edit, want string) {
	t.Helper()
	moved, ok := impl.TransformEdit(s, f, e, false)
	if !ok {
		t.Fatalf("TransformEdit(%.20q, %s, %s, false) is refused", s, shown(f), shown(e))
	}
	if x := applied(t, applied(t, s, e), moved); x != want {
		t.Errorf("%s and then %s make %.20q of %.20q, not %.20q", shown(e), shown(moved), x, s, want)
	}
	moved, ok = impl.TransformEdit(s, e, f, true)
	if !ok {
		t.Fatalf("TransformEdit(%.20q, %s, %s, true) is refused", s, shown(e), shown(f))
	}
	if x := applied(t, applied(t, s, f), moved); x != want {
		t.Errorf("%s and then %s make %.20q of %.20q, not %.20q", shown(f), shown(moved), x, s, want)
	}
	if x, ok := impl.MergeEdits(s, e, f); !ok || x != want {
		t.Errorf("MergeEdits(%.20q, %s, %s) = %.20q, %v, not %.20q", s, shown(e), shown(f), x, ok, want)
	}
}

// checkNoMerge checks that two edits are not transformed or merged in any order.
func checkNoMerge(t *testing.T, s string, e, f impl.Edit) {
	t.Helper()
	for _, pair := range [][2]impl.Edit{{e, f}, {f, e}} {
		for _, first := range []bool{false, true} {
			if x, ok := impl.TransformEdit(s, pair[0], pair[1], first); ok || x != (impl.Edit{}) {
				t.Errorf("TransformEdit(%.20q, %s, %s, %v) = %s, %v", s, shown(pair[0]), shown(pair[1]), first, shown(x), ok)
			}
		}
		if x, ok := impl.MergeEdits(s, pair[0], pair[1]); ok || x != "" {
			t.Errorf("MergeEdits(%.20q, %s, %s) = %.20q, %v", s, shown(pair[0]), shown(pair[1]), x, ok)
		}
	}
}

func TestEditsClash(t *testing.T) {
	s := "abcdef"
	cases := []struct {
		e, f impl.Edit
		want bool
	}{
		{edit(2, 4, ""), edit(3, 5, ""), true},
		{edit(2, 4, ""), edit(2, 4, ""), true},
		{edit(2, 4, "x"), edit(2, 4, "x"), true},
		{edit(0, 6, ""), edit(2, 3, ""), true},
		{edit(2, 3, ""), edit(2, 3, "yy"), true},
		{edit(2, 5, ""), edit(2, 3, ""), true},
		{edit(2, 5, ""), edit(4, 5, ""), true},
		{edit(2, 4, ""), edit(4, 5, ""), false},
		{edit(2, 4, "x"), edit(4, 5, "y"), false},
		{edit(0, 1, ""), edit(5, 6, ""), false},
		// An insertion at the beginning, inside and at the end of what is removed.
		{edit(2, 2, "x"), edit(2, 4, ""), false},
		{edit(3, 3, "x"), edit(2, 4, ""), true},
		{edit(4, 4, "x"), edit(2, 4, ""), false},
		{edit(1, 1, "x"), edit(2, 4, ""), false},
		{edit(5, 5, "x"), edit(2, 4, ""), false},
		// A single byte has no inside.
		{edit(2, 2, "x"), edit(2, 3, ""), false},
		{edit(3, 3, "x"), edit(2, 3, ""), false},
		{edit(0, 0, "x"), edit(0, 6, ""), false},
		{edit(1, 1, "x"), edit(0, 6, ""), true},
		{edit(5, 5, "x"), edit(0, 6, ""), true},
		{edit(6, 6, "x"), edit(0, 6, ""), false},
		// Two insertions never clash.
		{edit(2, 2, "x"), edit(2, 2, "y"), false},
		{edit(2, 2, "x"), edit(2, 2, "x"), false},
		{edit(2, 2, "x"), edit(3, 3, "y"), false},
		// An edit that changes nothing clashes like any other one.
		{edit(3, 3, ""), edit(2, 4, ""), true},
		{edit(2, 2, ""), edit(2, 4, ""), false},
		{edit(4, 4, ""), edit(2, 4, ""), false},
		{edit(2, 2, ""), edit(2, 2, ""), false},
		{edit(2, 2, ""), edit(2, 2, "x"), false},
		{edit(2, 3, "c"), edit(2, 3, "c"), true},
		{edit(2, 4, "cd"), edit(3, 3, "x"), true},
		{edit(2, 4, "cd"), edit(4, 4, "x"), false},
	}
	for _, c := range cases {
		if got := impl.EditsClash(s, c.e, c.f); got != c.want {
			t.Errorf("EditsClash(%q, %v, %v) = %v", s, c.e, c.f, got)
		}
		if got := impl.EditsClash(s, c.f, c.e); got != c.want {
			t.Errorf("EditsClash(%q, %v, %v) = %v", s, c.f, c.e, got)
		}
		if c.want {
			checkNoMerge(t, s, c.e, c.f)
		}
	}
}

func TestTransformEdit(t *testing.T) {
	s := "abcdef"
	cases := []struct {
		e, f   impl.Edit
		first  bool
		want   impl.Edit
		reason string
	}{
		{edit(2, 4, ""), edit(1, 1, "xx"), false, edit(4, 6, ""), "behind an insertion"},
		{edit(4, 5, "y"), edit(0, 3, "x"), false, edit(2, 3, "y"), "behind an edit that makes the text shorter"},
		{edit(4, 5, "y"), edit(0, 3, "xxx"), false, edit(4, 5, "y"), "behind an edit that keeps the length"},
		{edit(0, 3, "x"), edit(4, 5, "yyy"), false, edit(0, 3, "x"), "in front of another edit"},
		{edit(2, 2, "x"), edit(2, 2, "yy"), true, edit(2, 2, "x"), "the first one of two insertions"},
		{edit(2, 2, "x"), edit(2, 2, "yy"), false, edit(4, 4, "x"), "the other one of two insertions"},
		{edit(0, 0, "x"), edit(0, 0, "y"), false, edit(1, 1, "x"), "insertions at the beginning of the text"},
		{edit(6, 6, "x"), edit(6, 6, "y"), false, edit(7, 7, "x"), "insertions at the end of the text"},
		{edit(6, 6, "x"), edit(6, 6, "y"), true, edit(6, 6, "x"), "the first insertion at the end of the text"},
		{edit(2, 2, "x"), edit(2, 4, "yyy"), false, edit(2, 2, "x"), "an insertion at the beginning of what is removed"},
		{edit(2, 4, "yyy"), edit(2, 2, "x"), true, edit(3, 5, "yyy"), "what is removed behind an insertion"},
		{edit(4, 4, "x"), edit(2, 4, ""), true, edit(2, 2, "x"), "an insertion at the end of what is removed"},
		{edit(4, 4, "x"), edit(2, 4, "yyy"), true, edit(5, 5, "x"), "an insertion at the end of what is replaced"},
		{edit(2, 4, "yyy"), edit(4, 4, "x"), false, edit(2, 4, "yyy"), "what is removed in front of an insertion"},
		{edit(2, 4, "x"), edit(4, 5, "yy"), false, edit(2, 4, "x"), "the left one of edits that touch"},
		{edit(4, 5, "yy"), edit(2, 4, "x"), true, edit(3, 4, "yy"), "the right one of edits that touch"},
		{edit(2, 2, ""), edit(2, 2, "x"), false, edit(3, 3, ""), "nothing, behind an insertion"},
		{edit(2, 2, ""), edit(2, 2, "x"), true, edit(2, 2, ""), "nothing, in front of an insertion"},
		{edit(4, 4, ""), edit(2, 4, ""), true, edit(2, 2, ""), "nothing, behind what is removed"},
		{edit(2, 4, "x"), edit(2, 2, ""), true, edit(2, 4, "x"), "beside nothing"},
		{edit(0, 0, "abc"), edit(0, 6, ""), false, edit(0, 0, "abc"), "in front of a text that is removed"},
		{edit(6, 6, "abc"), edit(0, 6, ""), true, edit(0, 0, "abc"), "behind a text that is removed"},
	}
	for _, c := range cases {
		if x, ok := impl.TransformEdit(s, c.e, c.f, c.first); !ok || x != c.want {
			t.Errorf("%s: TransformEdit(%q, %v, %v, %v) = %v, %v", c.reason, s, c.e, c.f, c.first, x, ok)
		}
	}
	// Which of both is the first one counts only for insertions at the same place.
	for _, c := range cases {
		x, ok := impl.TransformEdit(s, c.e, c.f, !c.first)
		same := c.e.From == c.f.From && c.e.To == c.f.To
		if !ok || !same && x != c.want || same && x == c.want {
			t.Errorf("%s: TransformEdit(%q, %v, %v, %v) = %v, %v", c.reason, s, c.e, c.f, !c.first, x, ok)
		}
	}
}

func TestMergeEdits(t *testing.T) {
	cases := []struct {
		s    string
		e, f impl.Edit
		want string
	}{
		{"abc", edit(1, 1, "x"), edit(2, 3, ""), "axb"},
		{"abc", edit(2, 3, ""), edit(1, 1, "x"), "axb"},
		{"", edit(0, 0, ""), edit(0, 0, ""), ""},
		{"", edit(0, 0, "x"), edit(0, 0, "y"), "xy"},
		{"", edit(0, 0, "y"), edit(0, 0, "x"), "yx"},
		{"abcdef", edit(1, 1, "xx"), edit(1, 1, "y"), "axxybcdef"},
		{"abcdef", edit(1, 1, "y"), edit(1, 1, "xx"), "ayxxbcdef"},
		{"abcdef", edit(6, 6, "x"), edit(6, 6, "y"), "abcdefxy"},
		{"abcdef", edit(2, 4, "12"), edit(2, 2, "x"), "abx12ef"},
		{"abcdef", edit(2, 2, "x"), edit(2, 4, "12"), "abx12ef"},
		{"abcdef", edit(2, 4, "12"), edit(4, 4, "x"), "ab12xef"},
		{"abcdef", edit(4, 4, "x"), edit(2, 4, "12"), "ab12xef"},
		{"abcdef", edit(2, 4, "12"), edit(4, 6, "34"), "ab1234"},
		{"abcdef", edit(4, 6, "34"), edit(2, 4, "12"), "ab1234"},
		{"abcdef", edit(0, 3, ""), edit(3, 6, ""), ""},
		{"abcdef", edit(0, 0, "x"), edit(0, 6, ""), "x"},
		{"abcdef", edit(6, 6, "x"), edit(0, 6, ""), "x"},
		{"abcdef", edit(2, 2, ""), edit(2, 4, "x"), "abxef"},
		{"abcdef", edit(2, 4, "x"), edit(4, 4, ""), "abxef"},
		{"abcdef", edit(2, 2, ""), edit(2, 2, "x"), "abxcdef"},
		{"x = 1\ny = 2", edit(4, 5, "3"), edit(5, 6, ""), "x = 3y = 2"},
		{"x = 1\ny = 2", edit(6, 11, ""), edit(0, 0, "z = 0\n"), "z = 0\nx = 1\n"},
	}
	for _, c := range cases {
		if c.e.From < c.e.To || c.e.From != c.f.From || c.e.To != c.f.To {
			checkOrders(t, c.s, c.f, c.e, c.want)
		}
		checkOrders(t, c.s, c.e, c.f, c.want)
	}
}

// TestBothOrders checks promise 8 for all edits of small texts.
func TestBothOrders(t *testing.T) {
	for length := range 5 {
		s := "abcd"[:length]
		for _, e := range editsOf(s, []string{"", "x", "xy"}) {
			for _, f := range editsOf(s, []string{"", "1", "123"}) {
				clash := plainClash(length, e, f)
				if got := impl.EditsClash(s, e, f); got != clash {
					t.Errorf("EditsClash(%q, %v, %v) = %v", s, e, f, got)
				}
				if clash {
					checkNoMerge(t, s, e, f)
					continue
				}
				checkOrders(t, s, e, f, plainMerge(s, e, f))
				checkOrders(t, s, f, e, plainMerge(s, f, e))
			}
		}
	}
}

// TestTransformedEdits checks that an edit inserts the same and removes the same bytes after another one.
func TestTransformedEdits(t *testing.T) {
	s := "abcd"
	for _, e := range editsOf(s, []string{"", "x"}) {
		for _, f := range editsOf(s, []string{"", "1", "123"}) {
			moved, ok := impl.TransformEdit(s, e, f, true)
			if !ok {
				continue
			}
			if moved.Insert != e.Insert || moved.To-moved.From != e.To-e.From {
				t.Errorf("TransformEdit(%q, %v, %v, true) = %v", s, e, f, moved)
			}
			for at := e.From; at < e.To; at++ {
				to, ok := impl.MoveOffset(s, f, at)
				if !ok || to != moved.From+at-e.From {
					t.Errorf("TransformEdit(%q, %v, %v, true) = %v, but %d moves to %d, %v", s, e, f, moved, at, to, ok)
				}
			}
		}
	}
}

// randomText returns some text of this length.
func randomText(r *rand.Rand, length int) string {
	b := make([]byte, length)
	for i := range b {
		b[i] = "abc =(1)\n"[r.Intn(9)]
	}
	return string(b)
}

// randomEdit returns an edit with offsets of s that is often, but not always, valid.
func randomEdit(r *rand.Rand, s string) impl.Edit {
	from := r.Intn(len(s) + 1)
	to := from
	if r.Intn(3) > 0 {
		to += r.Intn(min(len(s)-from, 40) + 1)
	}
	return edit(from, to, randomText(r, r.Intn(50)))
}

// TestRandomMerges checks promise 8 for long texts, also where they become too long.
func TestRandomMerges(t *testing.T) {
	r := rand.New(rand.NewSource(8))
	seen := map[string]int{}
	for range 4000 {
		s := randomText(r, impl.MaxText-r.Intn(120))
		e, f := randomEdit(r, s), randomEdit(r, s)
		merged := plainMerge(s, e, f)
		valid := impl.EditValid(s, e) && impl.EditValid(s, f)
		clash := plainClash(len(s), e, f)
		if got := impl.EditsClash(s, e, f); got != (valid && clash) {
			t.Fatalf("EditsClash(%.20q, %s, %s) = %v", s, shown(e), shown(f), got)
		}
		switch {
		case !valid:
			seen["invalid"]++
			checkNoMerge(t, s, e, f)
		case clash:
			seen["clash"]++
			checkNoMerge(t, s, e, f)
		case len(merged) > impl.MaxText:
			seen["long"]++
			checkNoMerge(t, s, e, f)
		default:
			seen["merged"]++
			checkOrders(t, s, e, f, merged)
		}
	}
	for _, what := range []string{"invalid", "clash", "long", "merged"} {
		if seen[what] < 20 {
			t.Errorf("only %d pairs of edits of the kind %s", seen[what], what)
		}
	}
}

func TestTooLongTogether(t *testing.T) {
	n := impl.MaxText
	short := longest[2:]
	cases := []struct {
		s    string
		e, f impl.Edit
		ok   bool
	}{
		{short, edit(0, 0, "x"), edit(0, 0, "y"), true},
		{short, edit(0, 0, "x"), edit(5, 5, "yz"), false},
		{short, edit(5, 5, "wx"), edit(0, 0, "yz"), false},
		{short, edit(3, 3, "wx"), edit(3, 3, "y"), false},
		{short, edit(n-2, n-2, "x"), edit(n-2, n-2, "yz"), false},
		{short, edit(0, 1, "wxyz"), edit(n-2, n-2, ""), false},
		{short, edit(0, 1, "wxy"), edit(n-2, n-2, ""), true},
		{short, edit(0, 1, "wxy"), edit(4, 5, "yz"), false},
		{short, edit(0, 1, "wxy"), edit(4, 5, "z"), true},
		{short, edit(0, 1, "wx"), edit(4, 5, "yz"), true},
		// Each edit must be valid without the other one, which could make room.
		{longest, edit(0, 0, "x"), edit(4, 5, ""), false},
		{longest, edit(4, 5, ""), edit(0, 0, "x"), false},
		{longest, edit(0, 1, "x"), edit(4, 5, "y"), true},
		{short, edit(0, 3, ""), edit(4, 4, "xy"), true},
		{short, edit(0, 3, ""), edit(4, 4, "xyz"), false},
		{"", edit(0, 0, longest), edit(0, 0, ""), true},
		{"", edit(0, 0, longest), edit(0, 0, "x"), false},
		{"", edit(0, 0, longest[:n/2]), edit(0, 0, longest[n/2:]), true},
		{"", edit(0, 0, longest[:n/2]), edit(0, 0, longest[n/2-1:]), false},
	}
	for i, c := range cases {
		if impl.EditsClash(c.s, c.e, c.f) {
			t.Errorf("case %d: EditsClash = true", i)
		}
		if c.ok {
			checkOrders(t, c.s, c.e, c.f, plainMerge(c.s, c.e, c.f))
		} else {
			checkNoMerge(t, c.s, c.e, c.f)
		}
	}
}

// TestBadMerges checks that every function refuses what is not a text or not an edit of it.
func TestBadMerges(t *testing.T) {
	type input struct {
		s string
		e impl.Edit
	}
	list := []input{
		{"\t", impl.Edit{}},
		{"a\x80", impl.Edit{}},
		{longest + "x", impl.Edit{}},
		// This edit would make a text of it.
		{longest + "x", edit(0, 1, "")},
		{longest, edit(0, 0, "a")},
		{longest[1:], edit(0, 0, "ab")},
		{longest, edit(0, 1, "ab")},
	}
	for _, e := range badEdits() {
		list = append(list, input{"x = 1\ny", e})
	}
	for i, in := range list {
		for _, f := range []impl.Edit{{}, edit(0, 2, "ab"), edit(2, 2, ""), in.e} {
			checkNoMerge(t, in.s, in.e, f)
			if impl.EditsClash(in.s, in.e, f) || impl.EditsClash(in.s, f, in.e) {
				t.Errorf("input %d: EditsClash with %v", i, f)
			}
		}
		for _, l := range [][]impl.Edit{{in.e}, {{}, in.e}, {in.e, edit(2, 2, "")}, {{}, in.e, edit(2, 2, "")}, {in.e, in.e}} {
			checkNoList(t, in.s, l)
		}
	}
	for _, s := range []string{"\t", "a\x80", longest + "x"} {
		checkNoList(t, s, nil)
		checkNoList(t, s, []impl.Edit{})
	}
}

// checkList checks a list of edits that are in order.
func checkList(t *testing.T, s string, list []impl.Edit, want string) {
	t.Helper()
	if !impl.EditsInOrder(s, list) {
		t.Errorf("EditsInOrder(%.20q, %s) = false", s, shown(list...))
	}
	if x, ok := impl.ApplyAll(s, list); !ok || x != want {
		t.Errorf("ApplyAll(%.20q, %s) = %.20q, %v, not %.20q", s, shown(list...), x, ok, want)
	}
}

// checkNoList checks a list of edits that are not in order.
func checkNoList(t *testing.T, s string, list []impl.Edit) {
	t.Helper()
	if impl.EditsInOrder(s, list) {
		t.Errorf("EditsInOrder(%.20q, %s) = true", s, shown(list...))
	}
	if x, ok := impl.ApplyAll(s, list); ok || x != "" {
		t.Errorf("ApplyAll(%.20q, %s) = %.20q, %v", s, shown(list...), x, ok)
	}
}

func TestApplyAll(t *testing.T) {
	s := "abcdef"
	cases := []struct {
		list []impl.Edit
		want string
	}{
		{nil, "abcdef"},
		{[]impl.Edit{}, "abcdef"},
		{[]impl.Edit{{}}, "abcdef"},
		{[]impl.Edit{edit(0, 6, "")}, ""},
		{[]impl.Edit{edit(0, 1, "A"), edit(1, 1, "1"), edit(1, 2, "2"), edit(5, 6, "")}, "A12cde"},
		// Edits at the same place insert in their order.
		{[]impl.Edit{edit(3, 3, "x"), edit(3, 3, "y"), edit(3, 3, "z")}, "abcxyzdef"},
		{[]impl.Edit{edit(3, 3, "z"), edit(3, 3, "y"), edit(3, 3, "x")}, "abczyxdef"},
		{[]impl.Edit{edit(6, 6, "x"), edit(6, 6, "y")}, "abcdefxy"},
		{[]impl.Edit{edit(0, 0, "x"), edit(0, 0, ""), edit(0, 0, "y")}, "xyabcdef"},
		// Edits that touch.
		{[]impl.Edit{edit(1, 2, "x"), edit(2, 4, "y"), edit(4, 5, "z")}, "axyzf"},
		{[]impl.Edit{edit(2, 4, "x"), edit(4, 4, "y")}, "abxyef"},
		{[]impl.Edit{edit(2, 2, "x"), edit(2, 4, "y")}, "abxyef"},
		{[]impl.Edit{edit(0, 3, ""), edit(3, 6, "")}, ""},
		// Each offset is one of s, wherever the edits before it move the bytes.
		{[]impl.Edit{edit(0, 2, ""), edit(4, 5, "")}, "cdf"},
		{[]impl.Edit{edit(0, 0, "xyz"), edit(4, 5, "12")}, "xyzabcd12f"},
		{[]impl.Edit{edit(1, 2, "xyz"), edit(3, 3, "\n"), edit(4, 6, "")}, "axyzc\nd"},
	}
	for _, c := range cases {
		checkList(t, s, c.list, c.want)
	}
	checkList(t, "", nil, "")
	checkList(t, "", []impl.Edit{edit(0, 0, "x"), edit(0, 0, "y")}, "xy")
	checkList(t, longest, nil, longest)
}

func TestEditsInOrderRefuses(t *testing.T) {
	s := "abcdef"
	cases := [][]impl.Edit{
		// Edits that overlap.
		{edit(0, 2, ""), edit(1, 3, "")},
		{edit(0, 2, "x"), edit(0, 2, "x")},
		{edit(0, 4, ""), edit(1, 2, "")},
		{edit(0, 2, ""), edit(1, 1, "x")},
		{edit(0, 2, ""), edit(1, 1, "")},
		// Edits in another order.
		{edit(3, 4, ""), edit(0, 1, "")},
		{edit(1, 2, ""), edit(0, 1, "")},
		{edit(3, 3, "x"), edit(2, 2, "y")},
		{edit(2, 4, ""), edit(2, 2, "x")},
		{edit(0, 1, ""), edit(3, 4, ""), edit(2, 3, "")},
		{edit(0, 1, ""), edit(3, 5, ""), edit(4, 6, "")},
		// The one before counts, and not the first one.
		{edit(0, 1, ""), edit(4, 5, ""), edit(1, 2, "")},
		// Offsets are those of s, not of the text after the edits before.
		{edit(0, 0, "xyz"), edit(7, 8, "")},
	}
	for _, list := range cases {
		checkNoList(t, s, list)
	}
}

// plainInOrder reports what EditsInOrder says of edits that are valid in a text that stays short.
func plainInOrder(list []impl.Edit) bool {
	for i := 1; i < len(list); i++ {
		if list[i].From < list[i-1].To {
			return false
		}
	}
	return true
}

// TestAllLists compares all lists of up to three edits of a small text with plain answers.
func TestAllLists(t *testing.T) {
	s := "abc"
	first, second, third := editsOf(s, []string{"", "xy"}), editsOf(s, []string{"", "1"}), editsOf(s, []string{"", "-"})
	check := func(list ...impl.Edit) {
		if plainInOrder(list) {
			checkList(t, s, list, plainMerge(s, list...))
		} else {
			checkNoList(t, s, list)
		}
	}
	for _, e := range first {
		check(e)
		for _, f := range second {
			check(e, f)
			for _, g := range third {
				check(e, f, g)
			}
		}
	}
}

// TestListsOfTwo checks that two edits in order are those that merge, with the left one as the first one.
func TestListsOfTwo(t *testing.T) {
	s := "abcd"
	for _, e := range editsOf(s, []string{"", "x"}) {
		for _, f := range editsOf(s, []string{"", "12"}) {
			if !impl.EditsInOrder(s, []impl.Edit{e, f}) {
				continue
			}
			x, ok := impl.MergeEdits(s, e, f)
			if y, fine := impl.ApplyAll(s, []impl.Edit{e, f}); !ok || !fine || x != y {
				t.Errorf("MergeEdits(%q, %v, %v) = %q, %v, but ApplyAll %q, %v", s, e, f, x, ok, y, fine)
			}
		}
	}
}

func TestListsAtTheLimit(t *testing.T) {
	n := impl.MaxText
	short := longest[1:]
	full := []impl.Edit{edit(0, 0, "x")}
	checkList(t, short, full, "x"+short)
	// Too long on the way, although it ends short enough.
	checkNoList(t, short, append(full, edit(1, 1, "y"), edit(2, 4, "")))
	checkNoList(t, longest[2:], append(full, edit(1, 1, "yz"), edit(2, 40, "")))
	checkNoList(t, short, append(full, edit(n-2, n-2, "y"), edit(n-2, n-1, "")))
	// The same edits in places in which each text is short enough.
	checkList(t, short, []impl.Edit{edit(0, 2, ""), edit(2, 2, "y"), edit(3, 3, "x"), edit(3, 4, "zz")}, "y"+short[2:3]+"xzz"+short[4:])
	checkNoList(t, short, []impl.Edit{edit(0, 1, ""), edit(2, 2, "y"), edit(3, 3, "x"), edit(3, 4, "zz")})
	// At the end it is too long.
	checkNoList(t, short, append(full, edit(5, 5, "y")))
	checkNoList(t, "", []impl.Edit{edit(0, 0, longest), edit(0, 0, "x")})
	checkList(t, "", []impl.Edit{edit(0, 0, longest), edit(0, 0, "")}, longest)
	checkNoList(t, "", slices.Repeat([]impl.Edit{edit(0, 0, longest)}, 3))
	// An edit that is only valid after those before it.
	checkNoList(t, longest, []impl.Edit{edit(0, 1, ""), edit(1, 1, "x")})
	checkNoList(t, longest, []impl.Edit{edit(0, 1, ""), edit(1, 2, "xy")})
	checkList(t, "", slices.Repeat([]impl.Edit{edit(0, 0, "x")}, n), strings.Repeat("x", n))
	checkNoList(t, "", slices.Repeat([]impl.Edit{edit(0, 0, "x")}, n+1))
	checkList(t, "ab", slices.Repeat([]impl.Edit{edit(1, 1, "")}, 2*n), "ab")
}

// randomList returns edits of s that are in order, except for the lengths of the texts.
func randomList(r *rand.Rand, s string, count int) []impl.Edit {
	places := make([]int, 2*count)
	for i := range places {
		places[i] = r.Intn(len(s) + 1)
	}
	slices.Sort(places)
	var list []impl.Edit
	for i := 0; i < len(places); i += 2 {
		list = append(list, edit(places[i], places[i+1], randomText(r, r.Intn(2*len(s)/count))))
	}
	return list
}

// TestRandomLists compares lists of edits of long texts with plain answers.
func TestRandomLists(t *testing.T) {
	r := rand.New(rand.NewSource(88))
	good, bad := 0, 0
	for range 2000 {
		s := randomText(r, impl.MaxText-r.Intn(700))
		list := randomList(r, s, 1+r.Intn(12))
		ok := true
		for i, e := range list {
			ok = ok && impl.EditValid(s, e) && len(plainMerge(s, list[:i+1]...)) <= impl.MaxText
		}
		if ok {
			good++
			checkList(t, s, list, plainMerge(s, list...))
		} else {
			bad++
			checkNoList(t, s, list)
		}
	}
	if good < 100 || bad < 100 {
		t.Errorf("%d lists in order, and %d others", good, bad)
	}
}

// TestListIsKept checks that a list is not changed, nor the memory behind it.
func TestListIsKept(t *testing.T) {
	memory := []impl.Edit{edit(0, 1, "xx"), edit(2, 2, "y"), edit(3, 4, ""), edit(9, 9, "z")}
	kept := slices.Clone(memory)
	for length := range len(memory) {
		impl.EditsInOrder("abcdef", memory[:length])
		impl.ApplyAll("abcdef", memory[:length])
	}
	if !slices.Equal(memory, kept) {
		t.Errorf("the list is %v now", memory)
	}
}
