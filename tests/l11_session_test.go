package tests

import (
	"fmt"
	"math"
	"math/rand"
	"slices"
	"strconv"
	"strings"
	"testing"

	"loop.example/livetyper/impl"
)

func change(file string, from, to int, insert string) impl.Change {
	return impl.Change{File: file, Edit: edit(from, to, insert)}
}

// changeOf reads a change as changeText writes it: "A/0/5/x = 1".
func changeOf(text string) impl.Change {
	parts := strings.SplitN(text, "/", 4)
	from, _ := strconv.Atoi(parts[1])
	to, _ := strconv.Atoi(parts[2])
	return change(parts[0], from, to, strings.ReplaceAll(parts[3], "|", "\n"))
}

func changeText(c impl.Change) string {
	return c.File + "/" + strconv.Itoa(c.Edit.From) + "/" + strconv.Itoa(c.Edit.To) + "/" + bars(c.Edit.Insert)
}

func changesOf(texts ...string) []impl.Change {
	var list []impl.Change
	for _, text := range texts {
		list = append(list, changeOf(text))
	}
	return list
}

func changeTexts(list []impl.Change) string {
	return joined(list, changeText, " ")
}

// noticeText writes notices: a file and its faults, without the file in front of them.
func noticeText(notices []impl.Notice) string {
	return joined(notices, func(n impl.Notice) string {
		faults := joined(faultTexts(n.Faults), func(fault string) string { return strings.TrimPrefix(fault, n.File) }, ",")
		return n.File + ":" + faults
	}, "; ")
}

// sessionText writes all of a session but the faults.
func sessionText(s impl.Session) string {
	text := strconv.Itoa(s.Number) + ":"
	for _, f := range s.Files {
		text += " " + f.Name + "{" + bars(f.Text) + "}"
	}
	return text + " undo " + changeTexts(s.Undo) + " redo " + changeTexts(s.Redo)
}

// sameSession compares sessions, where nil and empty slices are the same.
func sameSession(a, b impl.Session) bool {
	return slices.Equal(a.Files, b.Files) && slices.Equal(a.Shown, b.Shown) && slices.Equal(a.Undo, b.Undo) && slices.Equal(a.Redo, b.Redo) && a.Number == b.Number
}

func zeroSession(s impl.Session) bool {
	return sameSession(s, impl.Session{})
}

func sameNotices(a, b []impl.Notice) bool {
	return slices.EqualFunc(a, b, func(m, n impl.Notice) bool { return m.File == n.File && slices.Equal(m.Faults, n.Faults) })
}

// shownFaults are the faults of valid files, as the document lists them.
func shownFaults(files []impl.File) []impl.Fault {
	var list []impl.Fault
	for _, f := range files {
		list = append(list, impl.FaultsOf(files, f.Name)...)
	}
	return list
}

// sessionOf is a session with these files that has not been edited, whose Undo and Redo are made up.
func sessionOf(files []impl.File, undo, redo []impl.Change) impl.Session {
	return impl.Session{Files: files, Shown: shownFaults(files), Undo: undo, Redo: redo}
}

func plainText(s string) bool {
	for i := range len(s) {
		if s[i] != '\n' && (s[i] < 32 || s[i] > 126) {
			return false
		}
	}
	return len(s) <= 2000
}

// plainChange makes a change, and returns the one that undoes it.
func plainChange(files []impl.File, c impl.Change) ([]impl.File, impl.Change, bool) {
	e := c.Edit
	for i, f := range files {
		if f.Name != c.File || e.From < 0 || e.To < e.From || e.To > len(f.Text) || !plainText(e.Insert) {
			continue
		}
		now := f.Text[:e.From] + e.Insert + f.Text[e.To:]
		if !plainText(now) || strings.Count(now, "\n") >= 40 {
			continue
		}
		files = slices.Clone(files)
		files[i].Text = now
		return files, change(f.Name, e.From, e.From+len(e.Insert), f.Text[e.From:e.To]), true
	}
	return nil, impl.Change{}, false
}

// plainReplay makes changes one after the other.
func plainReplay(files []impl.File, list []impl.Change) ([]impl.File, bool) {
	ok := true
	for _, c := range list {
		if files, _, ok = plainChange(files, c); !ok {
			return nil, false
		}
	}
	return files, true
}

// plainSession follows the chapter word by word.
type plainSession struct{ impl.Session }

// plainNotices are the notices for two lists of faults.
func plainNotices(files []impl.File, before, after []impl.Fault) []impl.Notice {
	byFile := func(list []impl.Fault, file string) []impl.Fault {
		return slices.DeleteFunc(slices.Clone(list), func(f impl.Fault) bool { return f.File != file })
	}
	var notices []impl.Notice
	for _, f := range files {
		if now := byFile(after, f.Name); !slices.Equal(now, byFile(before, f.Name)) {
			notices = append(notices, impl.Notice{File: f.Name, Faults: now})
		}
	}
	return notices
}

// atMostTwenty puts a change behind a list, of which the first one goes if there are too many.
func atMostTwenty(list []impl.Change, c impl.Change) []impl.Change {
	list = append(slices.Clone(list), c)
	return list[max(0, len(list)-20):]
}

// step does an "edit" by a change, "undo" or "redo".
func (p plainSession) step(do string, c impl.Change) (plainSession, bool) {
	from := map[string][]impl.Change{"edit": {c}, "undo": p.Undo, "redo": p.Redo}[do]
	if len(from) == 0 {
		return plainSession{}, false
	}
	files, back, ok := plainChange(p.Files, from[len(from)-1])
	if !ok {
		return plainSession{}, false
	}
	rest := from[:len(from)-1]
	p.Files, p.Shown, p.Number = files, shownFaults(files), p.Number+1
	switch do {
	case "edit":
		p.Undo, p.Redo = atMostTwenty(p.Undo, back), nil
	case "undo":
		p.Undo, p.Redo = rest, atMostTwenty(p.Redo, back)
	case "redo":
		p.Undo, p.Redo = atMostTwenty(p.Undo, back), rest
	}
	return p, true
}

// watched is a session beside the plain one, and what is displayed by somebody
// who sees only the notices.
type watched struct {
	t         *testing.T
	session   impl.Session
	plain     plainSession
	displayed map[string][]impl.Fault
}

// watch opens a session.
func watch(t *testing.T, files []impl.File) *watched {
	t.Helper()
	s, notices, ok := impl.OpenSession(files)
	if !ok {
		t.Fatalf("OpenSession(%q) = false", files)
	}
	plain := plainSession{impl.Session{Files: files, Shown: shownFaults(files)}}
	if want := plainNotices(files, nil, plain.Shown); !sameNotices(notices, want) {
		t.Fatalf("OpenSession(%q) notices %s", files, noticeText(notices))
	}
	w := &watched{t: t, displayed: map[string][]impl.Fault{}}
	w.accept(s, notices, plain)
	return w
}

// watchMade has a session that was not opened, but is valid.
func watchMade(t *testing.T, s impl.Session) *watched {
	t.Helper()
	if !impl.SessionValid(s) {
		t.Fatalf("%s is not valid", sessionText(s))
	}
	w := &watched{t: t, session: s, plain: plainSession{s}, displayed: map[string][]impl.Fault{}}
	for _, f := range s.Files {
		w.displayed[f.Name] = impl.FaultsOf(s.Files, f.Name)
	}
	return w
}

// accept checks the next session, and promise 11: what is displayed are the faults of the files.
func (w *watched) accept(s impl.Session, notices []impl.Notice, plain plainSession) {
	w.t.Helper()
	if !sameSession(s, plain.Session) || !impl.SessionValid(s) {
		w.t.Fatalf("the session is %s %v,\nand not %s %v", sessionText(s), s.Shown, sessionText(plain.Session), plain.Shown)
	}
	for _, n := range notices {
		w.displayed[n.File] = n.Faults
	}
	for _, f := range s.Files {
		if !slices.Equal(w.displayed[f.Name], impl.FaultsOf(s.Files, f.Name)) {
			w.t.Fatalf("%s: %v are displayed", sessionText(s), w.displayed[f.Name])
		}
	}
	w.session, w.plain = s, plain
}

// step does an "edit" by a change, "undo" or "redo", and checks all that it returns.
func (w *watched) step(do string, c impl.Change) ([]impl.Notice, bool) {
	w.t.Helper()
	before := w.session
	var s impl.Session
	var notices []impl.Notice
	var ok bool
	switch do {
	case "edit":
		s, notices, ok = impl.EditSession(before, c)
	case "undo":
		s, notices, ok = impl.UndoSession(before)
	case "redo":
		s, notices, ok = impl.RedoSession(before)
	}
	plain, can := w.plain.step(do, c)
	if ok != can || !ok && (!zeroSession(s) || len(notices) != 0) {
		w.t.Fatalf("%s: %s %s yields %v, %s, %s", sessionText(before), do, changeText(c), ok, sessionText(s), noticeText(notices))
	}
	if !ok {
		return nil, false
	}
	if want := plainNotices(plain.Files, before.Shown, plain.Shown); !sameNotices(notices, want) {
		w.t.Fatalf("%s: %s %s notices %s, not %s", sessionText(before), do, changeText(c), noticeText(notices), noticeText(want))
	}
	w.accept(s, notices, plain)
	return notices, true
}

// do takes a step that is written as "undo", "redo" or a change, and returns
// the session and the notices, or "no".
func (w *watched) do(text string) string {
	w.t.Helper()
	do, c := text, impl.Change{}
	if strings.Contains(text, "/") {
		do, c = "edit", changeOf(text)
	}
	notices, ok := w.step(do, c)
	if !ok {
		return "no"
	}
	return strings.TrimSpace(sessionText(w.session) + " show " + noticeText(notices))
}

func TestSessionConstants(t *testing.T) {
	if impl.MaxUndo != 20 {
		t.Errorf("MaxUndo is %d", impl.MaxUndo)
	}
}

func TestOpenSession(t *testing.T) {
	for _, c := range []struct {
		files []impl.File
		want  string
	}{
		{nil, ""}, {[]impl.File{}, ""}, {filesOf("A", ""), ""}, {filesOf("B", "x = 1", "A", "use B\ny = B.x"), ""},
		// One of several files, and several, in the order of the files.
		{filesOf("A", "x = 1", "B", "("), "B: 0 bad"}, {filesOf("A", "x = w", "B", "y = 1"), "A: 0 name w"}, {filesOf("A", "", "B", "x = x", "C", ""), "B: 0 cycle x"},
		{filesOf("C", "(\nx = w", "B", "use A\ny = A.x\n\nz = A.q", "A", "x = (1 1)\nx : I\nx : I"), "C: 0 bad, 1 name w; B: 3 name A.q; A: 0 type x, 2 twice x"}, {filesOf("D", "(", "A", "", "C", "(", "B", ""), "D: 0 bad; C: 0 bad"},
		// Each kind.
		{filesOf("B", doubled+"z = q\nuse C\n(\ny = (1 1)\ny = 1\ns : I\nx = x", "A", "use B"), "B: 5 large f, 6 name q, 7 use C, 8 bad, 9 type y, 10 twice y, 11 sig s, 12 cycle x"},
	} {
		w := watch(t, c.files)
		s, notices, _ := impl.OpenSession(c.files)
		if got := noticeText(notices); got != c.want || !sameSession(s, impl.Session{Files: c.files, Shown: shownFaults(c.files)}) || !sameSession(s, w.session) {
			t.Errorf("OpenSession(%q) = %s, and notices %s", c.files, sessionText(s), got)
		}
	}
	for i, files := range invalidFiles() {
		if s, notices, ok := impl.OpenSession(files); ok || !zeroSession(s) || len(notices) != 0 {
			t.Errorf("list %d: OpenSession = %v, and notices %s", i, ok, noticeText(notices))
		}
	}
}

// TestNotices has edits with the notices for them, and for undoing and repeating them.
func TestNotices(t *testing.T) {
	users := func(text string) []impl.File {
		return filesOf("C", "use A\nc = (A.x+1)", "A", text, "B", "use A\nb = A.x\n")
	}
	for _, c := range []struct {
		files        []impl.File
		change       string
		notice, undo string
	}{
		// No fault changes.
		{filesOf("A", "x = 1"), "A/4/5/2", "", ""}, {filesOf("A", "x = 1", "B", "("), "A/4/5/2", "", ""}, {filesOf("A", "(\nx = 1"), "A/7/7/|y = 2", "", ""}, {filesOf("A", "x = (1 1)"), "A/5/6/2", "", ""}, {filesOf("A", "x = 1", "B", "use A\ny = A.x"), "A/4/5/(1,1)", "", ""},
		{filesOf("A", "x = 1"), "A/0/5/", "", ""}, {filesOf("A", ""), "A/0/0/x = 1", "", ""}, {filesOf("B", "x = 1", "A", "x = w"), "A/0/1/x", "", ""},
		// Nothing changes at all.
		{filesOf("A", "x = w"), "A/0/0/", "", ""}, {filesOf("A", "x = w"), "A/5/5/", "", ""}, {filesOf("A", "x = w", "B", "("), "A/4/5/w", "", ""}, {filesOf("A", "x = w", "B", "("), "B/0/1/(", "", ""}, {filesOf("A", ""), "A/0/0/", "", ""},
		// Of the file itself: a fault comes, goes, or becomes another one.
		{filesOf("A", "x = 1"), "A/4/5/w", "A: 0 name w", "A:"}, {filesOf("A", "x = w"), "A/4/5/1", "A:", "A: 0 name w"}, {filesOf("A", "x = w"), "A/4/5/v", "A: 0 name v", "A: 0 name w"}, {filesOf("A", "x = w"), "A/4/5/x", "A: 0 cycle x", "A: 0 name w"}, {filesOf("A", "x = (1 1)"), "A/0/1/y", "A: 0 type y", "A: 0 type x"},
		{filesOf("A", "("), "A/0/0/|", "A: 1 bad", "A: 0 bad"}, {filesOf("A", "(\n)"), "A/0/1/", "A: 1 bad", "A: 0 bad, 1 bad"}, {filesOf("A", "(\n)"), "A/0/2/", "A: 0 bad", "A: 0 bad, 1 bad"}, {filesOf("A", "(\n)"), "A/0/3/", "A:", "A: 0 bad, 1 bad"}, {filesOf("A", "("), "A/1/1/|x = w", "A: 0 bad, 1 name w", "A: 0 bad"},
		{filesOf("B", "x = w", "A", "x = w"), "A/0/5/", "A:", "A: 0 name w"}, {filesOf("A", "y : I\nx = 1"), "A/0/1/x", "A:", "A: 0 sig y"}, {filesOf("A", "x = 1\ny = 2"), "A/6/7/x", "A: 1 twice x", "A:"}, {filesOf("A", "use A"), "A/4/5/B", "A: 0 use B", "A: 0 use A"}, {filesOf("A", "use A", "B", ""), "A/4/5/B", "A:", "A: 0 use A"},
		// Of another file only.
		{filesOf("A", "x = 1", "B", "use A\ny = A.x"), "A/0/1/v", "B: 1 name A.x", "B:"}, {filesOf("A", "x = 1", "B", "use A\ny = A.x"), "A/0/5/", "B: 1 name A.x", "B:"}, {filesOf("B", "use A\ny = (A.x+1)", "A", "x = 1"), "A/4/5/(1,1)", "B: 1 type y", "B:"}, {filesOf("A", "x = 1", "B", "use A\ny = A.x"), "A/4/5/99", "", ""},
		{filesOf("A", "x = 1\nw = 1", "B", "use A\ny = (A.x+1)"), "A/0/0/x : I|", "", ""}, {filesOf("A", "x = \\y.y", "B", "use A\ny = (A.x A.x)"), "A/0/0/x : (I>I)|", "B: 1 type y", "B:"}, {filesOf("A", "v = 1", "B", "use A\ny = A.x"), "A/0/1/x", "B:", "B: 1 name A.x"},
		{filesOf("A", "(\nx = 1", "B", ")\nuse A\ny = A.x"), "A/2/3/v", "B: 0 bad, 2 name A.x", "B: 0 bad"}, {filesOf("A", "x = 1", "B", "use A\ny = A.x\nz = (y+1)"), "A/4/5/(1,1)", "B: 2 type z", "B:"},
		// Not of those whose names are blocked; also through a file without faults.
		{filesOf("A", "x = 1", "B", "use A\ny = A.x"), "A/4/5/w", "A: 0 name w", "A:"}, {filesOf("C", "use B\nz = (B.y+1)", "B", "use A\ny = A.x", "A", "x = 1"), "A/4/5/(1,1)", "C: 1 type z", "C:"}, {filesOf("C", "use B\nz = (1 B.y)", "B", "use A\ny = A.x", "A", "x = 1"), "A/4/5/(1 1)", "C:; A: 0 type x", "C: 1 type z; A:"},
		// Of several files, in their order, and not in that in which they use each other.
		{users("x = 1\n"), "A/5/5/0", "", ""}, {users("x = 1\n"), "A/0/1/X", "C: 1 name A.x; A: 0 bad; B: 1 name A.x", "C:; A:; B:"}, {users("x = 1\n"), "A/0/1/y", "C: 1 name A.x; B: 1 name A.x", "C:; B:"}, {users("x = 1\n"), "A/4/5/x", "A: 0 cycle x", "A:"}, {users("x = 1\n"), "A/4/5/(1,1)", "C: 1 type c", "C:"}, {users("y = 1\n"), "A/0/1/x", "C:; B:", "C: 1 name A.x; B: 1 name A.x"},
		{filesOf("A", "use B\nx = B.y", "B", "use A\ny = 1"), "B/10/11/A.x", "A: 1 cycle x; B: 1 cycle y", "A:; B:"}, {filesOf("B", "use A\ny = 1", "A", "use B\nx = B.y"), "B/10/11/A.x", "B: 1 cycle y; A: 1 cycle x", "B:; A:"},
		{filesOf("A", "x = 1", "B", "use A\ny = A.x", "C", "use A\ny = A.v", "D", "("), "A/0/1/v", "B: 1 name A.x; C:", "B:; C: 1 name A.v"}, {filesOf("A", "x = 1", "B", "use A\ny = A.x", "C", "use A\ny = A.v", "D", "use A\ny = A.w"), "A/5/5/|v = (|", "A: 1 bad", "A:"},
	} {
		w := watch(t, c.files)
		notices, ok := w.step("edit", changeOf(c.change))
		undo, _ := w.step("undo", impl.Change{})
		again, _ := w.step("redo", impl.Change{})
		if !ok || noticeText(notices) != c.notice || noticeText(undo) != c.undo || noticeText(again) != c.notice {
			t.Errorf("%q: %s notices %s, and then %s, and %s", c.files, c.change, noticeText(notices), noticeText(undo), noticeText(again))
		}
	}
}

// TestLimitsOfChanges has changes that lead to texts of files at the limits.
func TestLimitsOfChanges(t *testing.T) {
	files := filesOf("A", "", "C", strings.Repeat("-", impl.MaxText-1), "D", strings.Repeat("\n", impl.MaxFileLine-1))
	for _, c := range []impl.Change{
		change("A", 0, 0, strings.Repeat("-", impl.MaxText)), change("A", 0, 0, strings.Repeat("\n", impl.MaxFileLine-1)), change("A", 0, 0, " ~"),
		change("C", 0, 0, "-"), change("C", impl.MaxText-1, impl.MaxText-1, "\n"), change("C", 0, 1, "xx"), change("C", 0, impl.MaxText-1, strings.Repeat("x", impl.MaxText)), change("C", 0, impl.MaxText-1, ""),
		change("D", 0, 0, "x = 1"), change("D", 5, 6, "\n"), change("D", 0, 39, strings.Repeat("x = 1\n", 39)), change("D", impl.MaxFileLine-1, impl.MaxFileLine-1, "("),
	} {
		w := watch(t, files)
		for _, do := range []string{"edit", "undo", "redo", "undo"} {
			if _, ok := w.step(do, c); !ok {
				t.Errorf("%s of %.40s is not possible", do, changeText(c))
			}
		}
		if !slices.Equal(w.session.Files, files) {
			t.Errorf("after %.40s, the files are %q", changeText(c), w.session.Files)
		}
	}
}

// badChanges are changes that cannot be made in the files A with 11 bytes, B
// with none, C with all bytes but one, and D with all lines.
func badChanges() ([]impl.File, []impl.Change) {
	files := filesOf("A", "x = 1\ny = w", "B", "", "C", strings.Repeat("-", impl.MaxText-1), "D", strings.Repeat("\n", impl.MaxFileLine-1))
	list := []impl.Change{
		// No such file.
		change("E", 0, 0, ""), change("", 0, 0, ""), change("a", 0, 0, "x"), change("AB", 0, 0, "x"), change("A ", 0, 0, "x"), change("A.x", 0, 0, "x"), change("\xff", 0, 0, ""),
		// No edit of the text.
		change("A", -1, 0, ""), change("A", 3, 2, ""), change("A", 0, 12, ""), change("A", 12, 12, ""), change("B", 0, 1, ""), change("B", 1, 1, ""), change("B", 0, 11, ""),
		change("A", 0, 0, "\t"), change("A", 0, 1, "\x00"), change("B", 0, 0, "\x7f"), change("B", 0, 0, "\xff"), change("B", 0, 0, "\r\n"), change("A", 0, 11, "\u00e9"),
		// Too many bytes, or lines.
		change("A", 0, 0, strings.Repeat("-", impl.MaxText)), change("A", 0, 10, strings.Repeat("-", impl.MaxText)), change("B", 0, 0, strings.Repeat("-", impl.MaxText+1)), change("C", 0, 0, "--"), change("C", 0, 1, "---"),
		change("D", 0, 0, "\n"), change("D", 0, 1, "\n\n"), change("D", impl.MaxFileLine-1, impl.MaxFileLine-1, "x = 1\n"), change("B", 0, 0, strings.Repeat("\n", impl.MaxFileLine)), change("C", 0, 100, strings.Repeat("\n", impl.MaxFileLine)), change("A", 0, 11, strings.Repeat("x = 1\n", impl.MaxFileLine)),
	}
	for _, e := range badEdits() {
		list = append(list, impl.Change{File: "B", Edit: e})
	}
	return files, list
}

func TestBadChanges(t *testing.T) {
	files, list := badChanges()
	w := watch(t, files)
	w.do("A/10/11/v")
	w.do("A/0/1/w")
	w.do("undo")
	for _, c := range list {
		if _, ok := w.step("edit", c); ok {
			t.Errorf("%.40s is possible", changeText(c))
		}
	}
	if got, want := noticeText(plainNotices(files, nil, w.session.Shown)), "A: 1 name v"; got != want || len(w.session.Undo) != 1 || len(w.session.Redo) != 1 {
		t.Errorf("the session shows %s, and is %.60s", got, sessionText(w.session))
	}
	empty := watch(t, nil)
	for _, do := range []string{"A/0/0/", "/0/0/", "undo", "redo"} {
		if got := empty.do(do); got != "no" {
			t.Errorf("without files, %q yields %s", do, got)
		}
	}
}

// TestTurns edits, undoes and repeats in turn.
func TestTurns(t *testing.T) {
	files := filesOf("B", "use A\ny = A.x", "A", "x = 1")
	for _, steps := range [][]struct{ do, want string }{
		{
			{"undo", "no"}, {"redo", "no"},
			{"A/0/1/v", "1: B{use A|y = A.x} A{v = 1} undo A/0/1/x redo  show B: 1 name A.x"},
			{"redo", "no"},
			{"undo", "2: B{use A|y = A.x} A{x = 1} undo  redo A/0/1/v show B:"},
			{"undo", "no"},
			{"redo", "3: B{use A|y = A.x} A{v = 1} undo A/0/1/x redo  show B: 1 name A.x"},
			{"redo", "no"},
			{"undo", "4: B{use A|y = A.x} A{x = 1} undo  redo A/0/1/v show B:"},
			// An edit empties Redo.
			{"A/5/5/|z = x", "5: B{use A|y = A.x} A{x = 1|z = x} undo A/5/11/ redo  show"},
			{"redo", "no"},
			{"undo", "6: B{use A|y = A.x} A{x = 1} undo  redo A/5/5/|z = x show"},
		},
		// Several changes, with those that stay on both sides.
		{
			{"A/4/5/w", "1: B{use A|y = A.x} A{x = w} undo A/4/5/1 redo  show A: 0 name w"},
			{"B/0/6/", "2: B{y = A.x} A{x = w} undo A/4/5/1 B/0/0/use A| redo  show B: 0 name A.x"},
			{"A/0/5/w = 2", "3: B{y = A.x} A{w = 2} undo A/4/5/1 B/0/0/use A| A/0/5/x = w redo  show A:"},
			{"undo", "4: B{y = A.x} A{x = w} undo A/4/5/1 B/0/0/use A| redo A/0/5/w = 2 show A: 0 name w"},
			{"undo", "5: B{use A|y = A.x} A{x = w} undo A/4/5/1 redo A/0/5/w = 2 B/0/6/ show B:"},
			{"redo", "6: B{y = A.x} A{x = w} undo A/4/5/1 B/0/0/use A| redo A/0/5/w = 2 show B: 0 name A.x"},
			{"undo", "7: B{use A|y = A.x} A{x = w} undo A/4/5/1 redo A/0/5/w = 2 B/0/6/ show B:"},
			{"undo", "8: B{use A|y = A.x} A{x = 1} undo  redo A/0/5/w = 2 B/0/6/ A/4/5/w show A:"},
			{"undo", "no"},
			{"redo", "9: B{use A|y = A.x} A{x = w} undo A/4/5/1 redo A/0/5/w = 2 B/0/6/ show A: 0 name w"},
			{"redo", "10: B{y = A.x} A{x = w} undo A/4/5/1 B/0/0/use A| redo A/0/5/w = 2 show B: 0 name A.x"},
			{"redo", "11: B{y = A.x} A{w = 2} undo A/4/5/1 B/0/0/use A| A/0/5/x = w redo  show A:"},
			{"redo", "no"},
			{"undo", "12: B{y = A.x} A{x = w} undo A/4/5/1 B/0/0/use A| redo A/0/5/w = 2 show A: 0 name w"},
			{"A/5/5/+", "13: B{y = A.x} A{x = w+} undo A/4/5/1 B/0/0/use A| A/5/6/ redo  show A: 0 bad"},
			{"redo", "no"}, {"A/9/9/", "no"}, {"C/0/0/", "no"},
			{"undo", "14: B{y = A.x} A{x = w} undo A/4/5/1 B/0/0/use A| redo A/5/5/+ show A: 0 name w"},
		},
		// What changes nothing counts, too, and empties Redo.
		{
			{"A/0/0/", "1: B{use A|y = A.x} A{x = 1} undo A/0/0/ redo  show"},
			{"B/0/5/use A", "2: B{use A|y = A.x} A{x = 1} undo A/0/0/ B/0/5/use A redo  show"},
			{"undo", "3: B{use A|y = A.x} A{x = 1} undo A/0/0/ redo B/0/5/use A show"},
			{"A/5/5/", "4: B{use A|y = A.x} A{x = 1} undo A/0/0/ A/5/5/ redo  show"},
			{"redo", "no"},
			{"undo", "5: B{use A|y = A.x} A{x = 1} undo A/0/0/ redo A/5/5/ show"},
			{"undo", "6: B{use A|y = A.x} A{x = 1} undo  redo A/5/5/ A/0/0/ show"},
			{"undo", "no"},
			{"redo", "7: B{use A|y = A.x} A{x = 1} undo A/0/0/ redo A/5/5/ show"},
		},
	} {
		w := watch(t, files)
		for _, s := range steps {
			if got := w.do(s.do); got != s.want {
				t.Fatalf("%q yields\n%s, not\n%s", s.do, got, s.want)
			}
		}
	}
}

// TestTwentyEdits undoes what can be undone, and repeats it.
func TestTwentyEdits(t *testing.T) {
	for _, edits := range []int{0, 1, 19, 20, 21, 22, 40, 47} {
		files := filesOf("A", "", "B", "")
		w := watch(t, files)
		past := [][]impl.File{w.session.Files}
		for n := range edits {
			// In two files in turn, with a fault every third time.
			c := change([]string{"A", "B"}[n%2], 0, 0, []string{"x", "-- y\n", "\n"}[n%3])
			w.step("edit", c)
			past = append(past, w.session.Files)
		}
		undone, number := min(edits, 20), edits
		for n := range undone {
			w.step("undo", impl.Change{})
			number++
			if s := w.session; !slices.Equal(s.Files, past[edits-1-n]) || len(s.Undo) != undone-1-n || len(s.Redo) != n+1 || s.Number != number {
				t.Fatalf("after %d edits and %d times undoing, the session is %s", edits, n+1, sessionText(s))
			}
		}
		if got := w.do("undo"); got != "no" {
			t.Errorf("of %d edits, more than %d can be undone: %s", edits, undone, got)
		}
		for n := range undone {
			w.step("redo", impl.Change{})
			number++
			if s := w.session; !slices.Equal(s.Files, past[edits-undone+n+1]) || len(s.Undo) != n+1 || len(s.Redo) != undone-1-n || s.Number != number {
				t.Fatalf("after %d edits and %d times repeating, the session is %s", edits, n+1, sessionText(s))
			}
		}
		if got := w.do("redo"); got != "no" {
			t.Errorf("after %d edits, more than %d are repeated: %s", edits, undone, got)
		}
	}
}

// manyChanges are changes that can be made from the last one to the first one, and are different.
func manyChanges(count, first int) []impl.Change {
	var list []impl.Change
	for n := range count {
		list = append(list, change("A", 0, 0, strconv.Itoa(first+n)))
	}
	return list
}

// TestBothSides has more than twenty changes on both sides together, and more
// on one side than can be kept there.
func TestBothSides(t *testing.T) {
	for _, c := range []struct{ undo, redo int }{{20, 20}, {20, 19}, {19, 20}, {15, 15}, {11, 10}, {1, 20}, {20, 1}, {2, 19}, {20, 0}, {0, 20}} {
		for _, first := range []string{"undo", "redo"} {
			start := sessionOf(filesOf("A", "x = 1"), manyChanges(c.undo, 100), manyChanges(c.redo, 200))
			w := watchMade(t, start)
			from, to := c.undo, c.redo
			if first == "redo" {
				from, to = to, from
			}
			for n := range from {
				w.step(first, impl.Change{})
				left, other := w.session.Undo, w.session.Redo
				old, behind := start.Undo, start.Redo
				if first == "redo" {
					left, other, old, behind = other, left, behind, old
				}
				// Those that were on the other side stay, from the last one on.
				stay := min(to, 20-min(20, n+1))
				if len(other) != min(20, to+n+1) || !slices.Equal(left, old[:from-n-1]) || !slices.Equal(other[:stay], behind[to-stay:]) {
					t.Fatalf("with %v, after %d times %s, the session is %s", c, n+1, first, sessionText(w.session))
				}
			}
			if got := w.do(first); got != "no" {
				t.Errorf("with %v, more than %d times %s: %s", c, from, first, got)
			}
			if w.session.Number != from {
				t.Errorf("with %v, the number is %d", c, w.session.Number)
			}
		}
		// An edit on top of both: one side is emptied, and the other one loses its first change if it is full.
		w := watchMade(t, sessionOf(filesOf("A", "x = 1"), manyChanges(c.undo, 100), manyChanges(c.redo, 200)))
		w.do("A/4/5/w")
		want := append(manyChanges(c.undo, 100), change("A", 4, 5, "1"))
		if !slices.Equal(w.session.Undo, want[max(0, len(want)-20):]) || len(w.session.Redo) != 0 {
			t.Errorf("with %v, an edit yields %s", c, sessionText(w.session))
		}
	}
}

// goodSessions are valid; some of them can only be made by hand.
func goodSessions() []impl.Session {
	files := filesOf("B", "use A\ny = A.x\nz = A.q\n(", "A", "x = w\nx = 1")
	same := slices.Repeat(changesOf("A/0/0/"), 20)
	other := sessionOf(files, nil, nil)
	other.Number = math.MaxInt
	list := []impl.Session{
		{}, {Number: 1}, {Number: math.MaxInt}, {Files: []impl.File{}, Shown: []impl.Fault{}, Undo: []impl.Change{}, Redo: []impl.Change{}}, {Files: filesOf("A", "", "B", "x = 1"), Number: 7}, other,
		sessionOf(files, nil, nil), sessionOf(files, same, nil), sessionOf(files, nil, same), sessionOf(files, same, same),
		sessionOf(filesOf("A", ""), manyChanges(20, 1), manyChanges(20, 30)),
		// The last change makes the one before it possible.
		sessionOf(filesOf("A", ""), changesOf("A/0/2/", "A/0/0/ab"), nil), sessionOf(filesOf("A", ""), nil, changesOf("A/0/2/", "A/0/0/ab")), sessionOf(filesOf("A", "", "B", ""), changesOf("B/1/2/", "A/0/1/", "A/0/0/x", "B/0/0/xy"), changesOf("A/3/3/", "A/0/0/abc")),
		// One side needs nothing of the other one.
		sessionOf(filesOf("A", "abc"), changesOf("A/0/3/"), changesOf("A/2/3/")), sessionOf(filesOf("A", strings.Repeat("-", impl.MaxText)), changesOf("A/0/0/-", "A/0/1/"), nil), sessionOf(filesOf("A", strings.Repeat("\n", impl.MaxFileLine-1)), nil, changesOf("A/0/0/|", "A/0/1/")),
	}
	for _, f := range goodFileTexts() {
		list = append(list, sessionOf(filesOf("A", f, "B", "use A\nx = A.x"), nil, nil))
	}
	return list
}

// badSessions are sessions that are not valid, each for one reason only.
func badSessions() map[string]impl.Session {
	list := map[string]impl.Session{}
	for i, files := range invalidFiles() {
		list["files "+strconv.Itoa(i)] = impl.Session{Files: files}
	}
	files := filesOf("B", "use A\ny = A.x\nz = A.q\n(", "A", "x = w\nx = 1")
	put := func(name string, spoil func(s *impl.Session)) {
		s := sessionOf(slices.Clone(files), changesOf("A/0/0/x"), changesOf("A/0/1/y"))
		spoil(&s)
		list[name] = s
	}
	put("a name twice", func(s *impl.Session) { s.Files = append(s.Files, s.Files[1]) })
	put("number -1", func(s *impl.Session) { s.Number = -1 })
	put("least number", func(s *impl.Session) { s.Number = math.MinInt })
	put("no faults", func(s *impl.Session) { s.Shown = nil })
	put("other order", func(s *impl.Session) { s.Shown[0], s.Shown[1] = s.Shown[1], s.Shown[0] })
	put("other order of files", func(s *impl.Session) { s.Shown = append(s.Shown[2:], s.Shown[:2]...) })
	put("reversed", func(s *impl.Session) { slices.Reverse(s.Shown) })
	put("without the first", func(s *impl.Session) { s.Shown = s.Shown[1:] })
	put("without the last", func(s *impl.Session) { s.Shown = s.Shown[:len(s.Shown)-1] })
	put("one twice", func(s *impl.Session) { s.Shown = append(s.Shown, s.Shown[len(s.Shown)-1]) })
	put("one more", func(s *impl.Session) {
		s.Shown = append(s.Shown, impl.Fault{File: "A", Line: 2, Kind: impl.FaultBad})
	})
	put("of no file", func(s *impl.Session) { s.Shown = append(s.Shown, impl.Fault{File: "Q", Kind: impl.FaultBad}) })
	put("an empty one", func(s *impl.Session) { s.Shown = append(s.Shown, impl.Fault{}) })
	put("other file", func(s *impl.Session) { s.Shown[0].File = "A" })
	put("other line", func(s *impl.Session) { s.Shown[0].Line++ })
	put("other kind", func(s *impl.Session) { s.Shown[0].Kind = impl.FaultType })
	put("other name", func(s *impl.Session) { s.Shown[0].Name = "A.x" })
	put("faults of other files", func(s *impl.Session) { s.Files[1].Text = "x = 1" })
	put("files in another order", func(s *impl.Session) { slices.Reverse(s.Files) })
	for name, changes := range map[string][]impl.Change{
		"twenty-one": slices.Repeat(changesOf("A/0/0/"), 21), "very many": slices.Repeat(changesOf("A/0/0/"), 100000), "no file": changesOf("C/0/0/"), "an empty change": {{}}, "first of two": changesOf("C/0/0/", "A/0/0/"), "last of two": changesOf("A/0/0/", "C/0/0/"), "one of three": changesOf("A/0/0/", "A/0/20/", "A/0/0/"),
		"other order only": changesOf("A/0/0/abcd", "A/0/15/"), "other order in a file": changesOf("B/0/0/y", "A/0/0/abcd", "A/0/15/", "B/0/1/"), "gone": changesOf("A/10/11/x", "A/0/11/"),
		"too long on the way": changesOf("A/0/1/", "A/0/0/"+strings.Repeat("-", impl.MaxText)), "too many lines on the way": changesOf("A/0/39/", "A/0/0/"+strings.Repeat("|", impl.MaxFileLine-1)), "no text": changesOf("A/0/0/\t"), "no text first": changesOf("A/0/0/\xff", "A/0/0/x"),
	} {
		put("undo "+name, func(s *impl.Session) { s.Undo = changes })
		put("redo "+name, func(s *impl.Session) { s.Redo = changes })
	}
	// Possible only after the changes of the other side.
	put("undo after redo", func(s *impl.Session) { s.Undo, s.Redo = changesOf("A/0/12/"), changesOf("A/0/0/abcd") })
	put("redo after undo", func(s *impl.Session) { s.Undo, s.Redo = changesOf("A/0/0/abcd"), changesOf("A/0/12/") })
	return list
}

func TestSessionValid(t *testing.T) {
	for i, s := range goodSessions() {
		if !impl.SessionValid(s) {
			t.Errorf("session %d: SessionValid of %.100s = false", i, sessionText(s))
		}
	}
	for name, s := range badSessions() {
		if impl.SessionValid(s) {
			t.Errorf("%s: SessionValid of %.100s = true", name, sessionText(s))
		}
	}
}

// TestStepsOfSessions has steps of sessions that can only be made by hand, and of those that are not valid.
func TestStepsOfSessions(t *testing.T) {
	steps := map[string]int{}
	for _, s := range goodSessions() {
		for _, do := range []string{"undo", "redo", "edit"} {
			if s.Number == math.MaxInt {
				continue
			}
			w := watchMade(t, s)
			for range 21 {
				if _, ok := w.step(do, change("A", 0, 0, "")); ok {
					steps[do]++
				}
			}
		}
	}
	if steps["undo"] < 60 || steps["redo"] < 60 || steps["edit"] < 300 {
		t.Errorf("the steps are %v", steps)
	}
	for name, s := range badSessions() {
		for do, step := range map[string]func() (impl.Session, []impl.Notice, bool){
			"undo": func() (impl.Session, []impl.Notice, bool) { return impl.UndoSession(s) },
			"redo": func() (impl.Session, []impl.Notice, bool) { return impl.RedoSession(s) },
			"edit": func() (impl.Session, []impl.Notice, bool) { return impl.EditSession(s, change("A", 0, 0, "")) },
		} {
			if out, notices, ok := step(); ok || !zeroSession(out) || len(notices) != 0 {
				t.Errorf("%s: %s yields %v, %.100s, %.100s", name, do, ok, sessionText(out), noticeText(notices))
			}
		}
	}
}

func TestReplayChanges(t *testing.T) {
	files := filesOf("B", "x = 1", "A", "")
	for _, c := range []struct {
		files   []impl.File
		changes []impl.Change
		want    string
	}{
		{nil, nil, ""}, {[]impl.File{}, []impl.Change{}, ""}, {files, nil, "B{x = 1} A{}"}, {files, []impl.Change{}, "B{x = 1} A{}"}, {files, changesOf("B/4/5/w"), "B{x = w} A{}"}, {files, changesOf("A/0/0/", "B/5/5/"), "B{x = 1} A{}"},
		// One makes the next one possible, and they are made in their order.
		{files, changesOf("A/0/0/xz", "A/1/1/y", "A/3/3/|"), "B{x = 1} A{xyz|}"}, {files, changesOf("A/0/0/a", "A/0/0/b", "A/0/0/c"), "B{x = 1} A{cba}"}, {files, changesOf("A/0/0/y", "B/0/1/z", "A/0/1/w", "B/0/1/v"), "B{v = 1} A{w}"}, {files, changesOf("B/5/5/0", "B/0/6/", "B/0/0/("), "B{(} A{}"},
		{files, changesOf("A/0/0/" + strings.Repeat("|", 39)), "B{x = 1} A{" + strings.Repeat("|", 39) + "}"}, {files, changesOf("A/0/0/"+strings.Repeat("|", 39), "A/0/9/", "A/0/0/"+strings.Repeat("|", 9)), "B{x = 1} A{" + strings.Repeat("|", 39) + "}"},
		{files, slices.Repeat(changesOf("A/0/0/x"), 100), "B{x = 1} A{" + strings.Repeat("x", 100) + "}"}, {files, slices.Repeat(changesOf("A/0/0/x", "A/0/1/"), 50), "B{x = 1} A{}"}, {files, slices.Repeat(changesOf("A/0/0/x", "B/0/0/y"), 50), "B{" + strings.Repeat("y", 50) + "x = 1} A{" + strings.Repeat("x", 50) + "}"}, {files, slices.Repeat(changesOf("A/0/0/x"), 99), "B{x = 1} A{" + strings.Repeat("x", 99) + "}"},
		// Too many.
		{files, slices.Repeat(changesOf("A/0/0/x"), 101), "no"}, {files, slices.Repeat(changesOf("A/0/0/"), 101), "no"}, {files, slices.Repeat(changesOf("A/0/0/"), 100000), "no"},
		// The last, the first, or another one cannot be made; perhaps in another order.
		{files, changesOf("A/0/0/x", "A/0/2/"), "no"}, {files, changesOf("A/0/1/", "A/0/0/x"), "no"}, {files, changesOf("A/0/0/x", "B/6/6/", "A/0/0/x"), "no"}, {files, changesOf("C/0/0/"), "no"}, {files, changesOf("A/0/0/x", "/0/0/"), "no"}, {files, []impl.Change{{}}, "no"}, {nil, changesOf("A/0/0/"), "no"}, {files, append(slices.Repeat(changesOf("A/0/0/x"), 99), change("A", 0, 100, "")), "no"},
		{files, changesOf("A/0/0/\t", "A/0/1/"), "no"}, {files, changesOf("A/0/0/"+strings.Repeat("|", 40), "A/0/40/"), "no"}, {files, changesOf("A/0/0/"+strings.Repeat("|", 39), "A/0/0/|", "A/0/1/"), "no"}, {files, changesOf("A/0/0/"+strings.Repeat("-", 2000), "A/0/0/-", "A/0/1/"), "no"}, {files, changesOf("A/0/0/" + strings.Repeat("-", 2001)), "no"},
	} {
		out, ok := impl.ReplayChanges(c.files, c.changes)
		got := "no"
		if ok {
			got = strings.TrimSuffix(strings.TrimPrefix(sessionText(impl.Session{Files: out}), "0:"), " undo  redo ")
		}
		if strings.TrimSpace(got) != c.want || !ok && len(out) != 0 {
			t.Errorf("%q: after %d changes, %.200s, there are %s", c.files, len(c.changes), changeTexts(c.changes[:min(len(c.changes), 3)]), got)
		}
	}
	for i, bad := range invalidFiles() {
		for _, list := range [][]impl.Change{nil, changesOf("A/0/0/"), changesOf("A/0/1/")} {
			if out, ok := impl.ReplayChanges(bad, list); ok || len(out) != 0 {
				t.Errorf("list %d: ReplayChanges = %v", i, ok)
			}
		}
	}
	some, changes := badChanges()
	for _, c := range changes {
		for _, list := range [][]impl.Change{{c}, {change("A", 0, 0, ""), c}, {c, change("A", 0, 0, "")}} {
			if out, ok := impl.ReplayChanges(some, list); ok || len(out) != 0 {
				t.Errorf("ReplayChanges of %.40s = %v", changeText(c), ok)
			}
		}
	}
}

// usingLines are lines that often change what is wrong in other files.
func usingLines() []string {
	return []string{"use A", "use B", "x = 1", "x = (1,1)", "x : I", "y = (x+1)", "y = A.x", "z = ^B.y", "(", ""}
}

// randomUsers has files whose names need those of other files.
func randomUsers(r *rand.Rand) []impl.File {
	files := filesOf("A", "", "B", "", "C", "", "D", "")[:2+r.Intn(3)]
	r.Shuffle(len(files), func(i, j int) { files[i], files[j] = files[j], files[i] })
	for i, f := range files {
		var lines []string
		for _, other := range files {
			if other != f {
				lines = append(lines, "use "+other.Name)
			}
		}
		for _, name := range []string{"x", "y", "z"}[:1+r.Intn(3)] {
			shape := []string{"1", "1", "(1,1)", "(N+1)", "(N+N)", "(N,1)", "^N", "N"}[r.Intn(8)]
			for strings.Contains(shape, "N") {
				other := files[r.Intn(len(files))].Name + "." + []string{"x", "x", "y", "z"}[r.Intn(4)]
				shape = strings.Replace(shape, "N", strings.TrimPrefix(other, f.Name+"."), 1)
			}
			lines = append(lines, name+" = "+shape)
		}
		files[i].Text = textOf(lines...)
	}
	return files
}

// otherMeaning is a text in which a definition has another name or type.
func otherMeaning(r *rand.Rand, text string) string {
	pairs := []string{"= 1", "= (1,1)", "x =", "v =", "+", ",", "^", ""}
	at := r.Intn(4) * 2
	if r.Intn(2) == 0 {
		pairs[at], pairs[at+1] = pairs[at+1], pairs[at]
	}
	return strings.Replace(text, pairs[at], pairs[at+1], 1)
}

// randomChange is a change that is often, but not always, possible: of lines
// or names, so that faults change, or of any bytes.
func randomChange(r *rand.Rand, files []impl.File, lines []string) impl.Change {
	f := files[r.Intn(len(files))]
	c := impl.Change{File: f.Name}
	switch r.Intn(25) {
	case 0:
		c.Edit = randomEdit(r, f.Text)
	case 1, 2:
		c.Edit = randomEdit(r, f.Text+"-----")
	case 3, 4:
		c.File, c.Edit = string(rune('A'+r.Intn(6))), edit(0, r.Intn(3), "\n")
	case 5, 6, 7, 8:
		c.Edit, _ = impl.DiffEdit(f.Text, changedText(r, f.Text, lines))
	default:
		c.Edit, _ = impl.DiffEdit(f.Text, otherMeaning(r, f.Text))
	}
	return c
}

// countStep counts a step that was possible, and what it shows.
func countStep(count map[string]int, do string, c impl.Change, w *watched, notices []impl.Notice) {
	count[do]++
	count[strconv.Itoa(len(notices))+" notices"]++
	if len(w.session.Undo) == impl.MaxUndo {
		count["full"]++
	}
	if do == "edit" && len(notices) == 1 && notices[0].File != c.File {
		count["other file"]++
	}
	if slices.ContainsFunc(notices, func(n impl.Notice) bool { return len(n.Faults) == 0 }) {
		count["last fault"]++
	}
}

// TestRandomSessions edits, undoes and repeats, and checks promise 11: what is
// shown are the faults of the files.
func TestRandomSessions(t *testing.T) {
	r := rand.New(rand.NewSource(111))
	count := map[string]int{}
	for n := range 120 {
		w, lines := watch(t, randomUsers(r)), usingLines()
		if n%4 == 0 {
			w, lines = watch(t, randomDefs(r)), linesFor(r)
		}
		for range 40 {
			do := []string{"edit", "edit", "edit", "edit", "undo", "undo", "redo", "redo", "redo"}[r.Intn(9)]
			times := 1
			if r.Intn(12) == 0 {
				times = r.Intn(25)
			}
			for range times {
				c := randomChange(r, w.session.Files, lines)
				if notices, ok := w.step(do, c); ok {
					countStep(count, do, c, w, notices)
				} else {
					count["no "+do]++
				}
			}
		}
	}
	for word, least := range map[string]int{"edit": 1000, "no edit": 100, "undo": 500, "no undo": 100, "redo": 200, "no redo": 500, "0 notices": 500, "1 notices": 500, "2 notices": 60, "3 notices": 5, "full": 300, "other file": 30, "last fault": 50} {
		if count[word] < least {
			t.Errorf("%s: only %d times", word, count[word])
		}
	}
}

// plainSessionValid follows the document word by word.
func plainSessionValid(s impl.Session) bool {
	if !impl.FilesValid(s.Files) || s.Number < 0 || len(s.Undo) > 20 || len(s.Redo) > 20 || !slices.Equal(s.Shown, shownFaults(s.Files)) {
		return false
	}
	for _, side := range [][]impl.Change{s.Undo, s.Redo} {
		side = slices.Clone(side)
		slices.Reverse(side)
		if _, ok := plainReplay(s.Files, side); !ok {
			return false
		}
	}
	return true
}

// spoilSession changes a session in a way that is sometimes valid.
func spoilSession(r *rand.Rand, s *impl.Session) {
	side := &s.Undo
	if r.Intn(2) == 0 {
		side = &s.Redo
	}
	at := r.Intn(len(*side) + 1)
	switch r.Intn(9) {
	case 0:
		s.Number = r.Intn(4) - 1
	case 1:
		f := &s.Files[r.Intn(len(s.Files))]
		f.Text += []string{"", "\n", "-", "\n("}[r.Intn(4)]
	case 2:
		slices.Reverse(s.Shown)
	case 3:
		s.Undo, s.Redo = s.Redo, s.Undo
	case 4:
		*side = (*side)[:at]
	case 5:
		*side = (*side)[at:]
	case 6:
		slices.Reverse(*side)
	default:
		*side = slices.Insert(*side, at, randomChange(r, s.Files, []string{"", "a = 1", "(", "use A"}))
	}
}

// deepSession is a copy of s that shares no memory with it.
func deepSession(s impl.Session) impl.Session {
	s.Files, s.Shown, s.Undo, s.Redo = slices.Clone(s.Files), slices.Clone(s.Shown), slices.Clone(s.Undo), slices.Clone(s.Redo)
	return s
}

// TestMadeUpSessions has sessions of which some are not valid: a step is
// possible in those that are, and in no other one.
func TestMadeUpSessions(t *testing.T) {
	r := rand.New(rand.NewSource(112))
	valid, refused := 0, 0
	for range 800 {
		s, _, _ := impl.OpenSession(randomUsers(r))
		for range r.Intn(25) {
			s, _, _ = impl.EditSession(s, change(s.Files[0].Name, 0, 0, "-"))
		}
		for range r.Intn(min(12, len(s.Undo)+1)) {
			s, _, _ = impl.UndoSession(s)
		}
		for range r.Intn(6) {
			spoilSession(r, &s)
		}
		good := plainSessionValid(s)
		if impl.SessionValid(s) != good {
			t.Fatalf("SessionValid of %s %v = %v", sessionText(s), s.Shown, !good)
		}
		if good {
			valid++
			for _, do := range []string{"undo", "redo", "edit"} {
				watchMade(t, s).step(do, change(s.Files[0].Name, 0, 0, "-"))
			}
			continue
		}
		refused++
		a, _, edited := impl.EditSession(s, change(s.Files[0].Name, 0, 0, ""))
		b, _, undone := impl.UndoSession(s)
		c, _, repeated := impl.RedoSession(s)
		if edited || undone || repeated || !zeroSession(a) || !zeroSession(b) || !zeroSession(c) {
			t.Fatalf("%s has a step", sessionText(s))
		}
	}
	if valid < 250 || refused < 250 {
		t.Errorf("%d sessions are valid, and %d are not", valid, refused)
	}
}

// TestSessionsAreReplayed checks that the edits of a session can be replayed,
// and that the changes of Undo lead back.
func TestSessionsAreReplayed(t *testing.T) {
	r := rand.New(rand.NewSource(113))
	replayed := 0
	for range 200 {
		files := randomUsers(r)
		w := watch(t, files)
		lines := usingLines()
		var list []impl.Change
		for range 20 {
			c := randomChange(r, w.session.Files, lines)
			if _, ok := w.step("edit", c); ok {
				list = append(list, c)
			}
			out, ok := impl.ReplayChanges(files, append(slices.Clone(list), c))
			want, can := plainReplay(files, append(slices.Clone(list), c))
			if ok != can || !slices.Equal(out, want) {
				t.Fatalf("%q: %s yields %q, %v", files, changeTexts(append(list, c)), out, ok)
			}
		}
		back := slices.Clone(w.session.Undo)
		slices.Reverse(back)
		now, ok := impl.ReplayChanges(files, list)
		then, undone := impl.ReplayChanges(now, back)
		if !ok || !undone || !slices.Equal(now, w.session.Files) || !slices.Equal(then, files) || len(back) != len(list) {
			t.Fatalf("%q: %s leads to %q, and back to %q", files, changeTexts(list), now, then)
		}
		replayed += len(list)
	}
	if replayed < 2000 {
		t.Errorf("only %d changes are replayed", replayed)
	}
}

// TestLongSessions has as many names as there are, of which almost all get a
// fault by one edit.
func TestLongSessions(t *testing.T) {
	files := longWays("1")
	w := watch(t, files)
	if notices, _ := w.step("edit", change("A", 0, 0, "\n")); noticeText(notices) != "A: 1 use A" {
		t.Errorf("an empty line yields %s", noticeText(notices))
	}
	// The last name gets a way back to the first one.
	at := strings.LastIndex(files[3].Text, "1")
	notices, ok := w.step("edit", change("D", at, at+1, "A.a"))
	faults := 0
	for _, n := range notices {
		faults += len(n.Faults)
	}
	// The last name but one does not need the last one, and each file uses itself.
	if !ok || len(notices) != 4 || faults != 103+4 {
		t.Errorf("a circle yields %v, %d notices and %d faults", ok, len(notices), faults)
	}
	if notices, _ := w.step("undo", impl.Change{}); len(notices) != 4 || len(w.session.Shown) != 4 {
		t.Errorf("without the circle, there are %s", noticeText(notices))
	}
}

// spoilt overwrites all that can be reached from a session and notices, also behind their lengths.
func spoilt(s impl.Session, notices []impl.Notice) {
	for _, n := range notices[:cap(notices)] {
		fill(n.Faults, impl.Fault{File: "Q"})
	}
	fill(notices, impl.Notice{File: "Q"})
	fill(s.Files, impl.File{Name: "Q"})
	fill(s.Shown, impl.Fault{File: "Q"})
	fill(s.Undo, change("Q", 0, 0, "q"))
	fill(s.Redo, change("Q", 0, 0, "q"))
}

func fill[T any](list []T, with T) {
	for i := range list[:cap(list)] {
		list[:cap(list)][i] = with
	}
}

// someSession has faults in two files, and changes on both sides.
func someSession(t *testing.T) impl.Session {
	w := watch(t, filesOf("A", "x = w\n(", "B", "use A\ny = A.x\nz = A.q"))
	for _, do := range []string{"A/0/1/v", "A/0/0/|", "B/0/0/|", "A/0/0/|", "undo", "undo"} {
		w.do(do)
	}
	return w.session
}

// TestSessionResultsAreNew checks that a change of an argument or of a result is not seen in another one.
func TestSessionResultsAreNew(t *testing.T) {
	kept := someSession(t)
	type outcome func(s impl.Session) (impl.Session, []impl.Notice, bool)
	for name, result := range map[string]outcome{
		"OpenSession": func(s impl.Session) (impl.Session, []impl.Notice, bool) { return impl.OpenSession(s.Files) },
		"EditSession": func(s impl.Session) (impl.Session, []impl.Notice, bool) {
			return impl.EditSession(s, changeOf("A/1/2/x"))
		},
		"EditSession of a name": func(s impl.Session) (impl.Session, []impl.Notice, bool) {
			return impl.EditSession(s, changeOf("A/0/0/|"))
		},
		"EditSession of nothing": func(s impl.Session) (impl.Session, []impl.Notice, bool) {
			return impl.EditSession(s, changeOf("A/0/0/"))
		},
		"UndoSession": impl.UndoSession,
		"RedoSession": impl.RedoSession,
		"ReplayChanges": func(s impl.Session) (impl.Session, []impl.Notice, bool) {
			files, ok := impl.ReplayChanges(s.Files, s.Undo[len(s.Undo)-1:])
			return impl.Session{Files: files}, nil, ok
		},
		"ReplayChanges of nothing": func(s impl.Session) (impl.Session, []impl.Notice, bool) {
			files, ok := impl.ReplayChanges(s.Files, nil)
			return impl.Session{Files: files}, nil, ok
		},
	} {
		want, shownWant, ok := result(deepSession(kept))
		text := fmt.Sprintf("%v %v", want, shownWant)
		if !ok {
			t.Fatalf("%s is not possible", name)
		}
		for _, spare := range []int{0, 8} {
			s := deepSession(kept)
			s.Files, s.Shown, s.Undo, s.Redo = slices.Grow(s.Files, spare), slices.Grow(s.Shown, spare), slices.Grow(s.Undo, spare), slices.Grow(s.Redo, spare)
			first, firstNotices, _ := result(s)
			second, secondNotices, _ := result(s)
			if slices.ContainsFunc(s.Files[len(s.Files):cap(s.Files)], func(f impl.File) bool { return f != impl.File{} }) || slices.ContainsFunc(s.Undo[len(s.Undo):cap(s.Undo)], func(c impl.Change) bool { return c != impl.Change{} }) || slices.ContainsFunc(s.Redo[len(s.Redo):cap(s.Redo)], func(c impl.Change) bool { return c != impl.Change{} }) || slices.ContainsFunc(s.Shown[len(s.Shown):cap(s.Shown)], func(f impl.Fault) bool { return f != impl.Fault{} }) {
				t.Errorf("%s changes memory behind its argument", name)
			}
			spoilt(first, firstNotices)
			if !sameSession(s, kept) || fmt.Sprintf("%v %v", second, secondNotices) != text {
				t.Errorf("%s: a change of a result is seen in another one, or in the argument", name)
			}
			spoilt(s, nil)
			if fmt.Sprintf("%v %v", second, secondNotices) != text {
				t.Errorf("%s: a change of the argument is seen in the result", name)
			}
		}
	}
}

// TestPartsOfResults checks that no two slices of one result share memory.
func TestPartsOfResults(t *testing.T) {
	files := filesOf("A", "x = w\n(", "B", "use A\ny = A.x\nz = A.q", "C", ")")
	for _, do := range []func() (impl.Session, []impl.Notice, bool){
		func() (impl.Session, []impl.Notice, bool) { return impl.OpenSession(files) },
		func() (impl.Session, []impl.Notice, bool) {
			return impl.EditSession(sessionOf(files, manyChanges(3, 1), nil), changeOf("A/0/5/"))
		},
		func() (impl.Session, []impl.Notice, bool) {
			return impl.UndoSession(sessionOf(files, append(manyChanges(3, 1), changeOf("A/0/5/")), manyChanges(3, 1)))
		},
	} {
		s, notices, ok := do()
		if !ok || len(notices) < 2 {
			t.Fatalf("there are %s, %v", noticeText(notices), ok)
		}
		// Each of them as it was, when all others are overwritten.
		var parts []func() string
		parts = append(parts, func() string { return fmt.Sprint(s.Shown) })
		var overwrite []func()
		overwrite = append(overwrite, func() { fill(s.Shown, impl.Fault{File: "Q"}) })
		for _, n := range notices {
			parts = append(parts, func() string { return fmt.Sprint(n.Faults) })
			overwrite = append(overwrite, func() { fill(n.Faults, impl.Fault{File: "Q"}) })
		}
		parts = append(parts, func() string { return changeTexts(s.Undo) }, func() string { return changeTexts(s.Redo) })
		overwrite = append(overwrite, func() { fill(s.Undo, change("Q", 0, 0, "q")) }, func() { fill(s.Redo, change("Q", 0, 0, "q")) })
		for i := range overwrite {
			var before []string
			for _, part := range parts[i+1:] {
				before = append(before, part())
			}
			overwrite[i]()
			for j, part := range parts[i+1:] {
				if part() != before[j] {
					t.Errorf("part %d of a result shares memory with part %d", i, i+1+j)
				}
			}
		}
	}
}

// TestSessionsAreKept checks that a session can be used again after each of its steps: it has no state of its own.
func TestSessionsAreKept(t *testing.T) {
	r := rand.New(rand.NewSource(114))
	start := someSession(t)
	known := map[string]string{}
	for range 300 {
		s := deepSession(start)
		path := ""
		for range 4 {
			do := []string{"undo", "redo", "A/0/0/|", "B/0/0/x = 1|"}[r.Intn(4)]
			w := watchMade(t, s)
			w.do(do)
			s = w.session
			path += do + " "
			text := sessionText(s) + fmt.Sprint(s.Shown)
			if before, ok := known[path]; ok && before != text {
				t.Fatalf("after %s, the session is %s, and was %s", path, text, before)
			}
			known[path] = text
		}
	}
	if len(known) < 100 || !sameSession(start, someSession(t)) {
		t.Errorf("there are %d ways, and the session is %s", len(known), sessionText(start))
	}
}
