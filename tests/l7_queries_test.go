package tests

import (
	"math/rand"
	"slices"
	"strconv"
	"strings"
	"testing"

	"loop.example/livetyper/impl"
)

// asked is a question.
type asked struct {
	kind       int
	file, name string
}

// kindWords has the kinds of questions in the order of their numbers, from 1 on.
func kindWords() []string {
	return []string{"text", "uses", "names", "def", "sig", "steps", "type", "face"}
}

// askedOf reads a question as String writes it: "type A.x" or "face A".
func askedOf(text string) asked {
	word, place, _ := strings.Cut(text, " ")
	file, name, _ := strings.Cut(place, ".")
	return asked{slices.Index(kindWords(), word) + 1, file, name}
}

func (q asked) String() string {
	text := kindWords()[q.kind-1] + " " + q.file
	if q.name != "" {
		text += "." + q.name
	}
	return text
}

func askedBy(m impl.Memo) asked {
	return asked{m.Kind, m.File, m.Name}
}

// wantsName reports whether the Name of a question of this kind is the name of a value.
func wantsName(kind int) bool {
	return kind == impl.AskDef || kind == impl.AskSig || kind == impl.AskSteps || kind == impl.AskType
}

// allAsked has all questions about files and names.
func allAsked(files []impl.File, names ...string) []asked {
	var list []asked
	for kind := impl.AskText; kind <= impl.AskFace; kind++ {
		for _, f := range files {
			if !wantsName(kind) {
				list = append(list, asked{kind, f.Name, ""})
				continue
			}
			for _, name := range names {
				list = append(list, asked{kind, f.Name, name})
			}
		}
	}
	return list
}

// openBase is the base with these files.
func openBase(t *testing.T, files []impl.File) impl.Base {
	t.Helper()
	b, ok := impl.OpenBase(files)
	if !ok {
		t.Fatalf("OpenBase(%q) = false", files)
	}
	return b
}

// askBase asks a question that can be asked, and checks that the base stays
// valid, and that the answer is what is found without remembering.
func askBase(t *testing.T, b impl.Base, q asked) (impl.Base, string) {
	t.Helper()
	c, answer := impl.AskBase(b, q.kind, q.file, q.name)
	if !impl.BaseValid(c) || !slices.Equal(c.Files, b.Files) || !slices.Equal(c.Edits, b.Edits) || c.Now != b.Now {
		t.Fatalf("%v: %v yields %v", b, q, c)
	}
	if fresh := impl.FreshAnswer(b.Files, q.kind, q.file, q.name); answer != fresh {
		t.Fatalf("%q: %v is %q, and %q if it is found anew", b.Files, q, answer, fresh)
	}
	at, ok := impl.MemoOf(c, q.kind, q.file, q.name)
	if !ok || askedBy(c.Memos[at]) != q || c.Memos[at].Answer != answer || c.Memos[at].Checked != c.Now {
		t.Fatalf("%q: %v is remembered at %d, %v", b.Files, q, at, ok)
	}
	return c, answer
}

// bars writes a bar for each newline.
func bars(text string) string {
	return strings.ReplaceAll(text, "\n", "|")
}

// memoTexts writes memos: the question, the answer, Changed, Checked, and the Needs.
func memoTexts(memos []impl.Memo) []string {
	var list []string
	for i, m := range memos {
		text := strconv.Itoa(i) + " " + askedBy(m).String() + " = " + bars(m.Answer) + " ; " + strconv.Itoa(m.Changed) + " " + strconv.Itoa(m.Checked) + " ;"
		for _, need := range m.Needs {
			text += " " + strconv.Itoa(need)
		}
		list = append(list, text)
	}
	return list
}

// sameBase compares bases, where nil and empty slices are the same.
func sameBase(a, b impl.Base) bool {
	return slices.Equal(a.Files, b.Files) && slices.Equal(a.Edits, b.Edits) && a.Now == b.Now && a.Work == b.Work &&
		slices.EqualFunc(a.Memos, b.Memos, func(m, n impl.Memo) bool {
			return askedBy(m) == askedBy(n) && m.Answer == n.Answer && m.Checked == n.Checked && m.Changed == n.Changed && slices.Equal(m.Needs, n.Needs)
		})
}

func zeroBase(b impl.Base) bool {
	return sameBase(b, impl.Base{})
}

// deepBase is a copy of b that shares no memory with it.
func deepBase(b impl.Base) impl.Base {
	b.Files, b.Edits, b.Memos = slices.Clone(b.Files), slices.Clone(b.Edits), slices.Clone(b.Memos)
	for i := range b.Memos {
		b.Memos[i].Needs = slices.Clone(b.Memos[i].Needs)
	}
	return b
}

func TestAskConstants(t *testing.T) {
	kinds := []int{impl.AskText, impl.AskUses, impl.AskNames, impl.AskDef, impl.AskSig, impl.AskSteps, impl.AskType, impl.AskFace, impl.MaxMemos}
	if !slices.Equal(kinds, []int{1, 2, 3, 4, 5, 6, 7, 8, 500}) {
		t.Errorf("the constants are %v", kinds)
	}
}

func TestOpenBase(t *testing.T) {
	for _, files := range [][]impl.File{nil, filesOf("A", ""), filesOf("B", "x = 1", "A", "("), filesOf("D", "use A", "C", "\n", "A", "x = x", "Z", "-- x")} {
		b, ok := impl.OpenBase(files)
		if !ok || !impl.BaseValid(b) || !sameBase(b, impl.Base{Files: files, Edits: make([]int, len(files))}) {
			t.Errorf("OpenBase(%q) = %v, %v", files, b, ok)
		}
	}
	for i, files := range invalidFiles() {
		if b, ok := impl.OpenBase(files); ok || !zeroBase(b) {
			t.Errorf("list %d: OpenBase = true", i)
		}
	}
}

// TestAnswers has each kind of question, and the answers without remembering.
func TestAnswers(t *testing.T) {
	a := "x = 1\nuse B\nuse C\nuse A\nuse D\nuse B\ny : (c>b)\nx = 2\ny : I\ny = \\x.(D.q (x,z))\nz = (y,(B.w,(D.q,(y,(z,B.p)))))\ns : I\n(\nuse\nv = w"
	files := filesOf("B", "w = (1,1)\np : a\np = 1\n", "A", a, "D", "use A\nq = \\x.A.x", "E", "")
	for _, c := range []struct{ question, want string }{
		{"text A", bars(a)}, {"text B", "w = (1,1)|p : a|p = 1|"}, {"text E", ""},
		{"uses A", "B|D|"}, {"uses D", "A|"}, {"uses B", ""}, {"uses E", ""},
		{"names A", "x|y|z|v|"}, {"names B", "w|p|"}, {"names D", "q|"}, {"names E", ""},
		{"def A.x", "1"}, {"def A.y", "\\x.(D.q (x,z))"}, {"def A.z", "(y,(B.w,(D.q,(y,(z,B.p)))))"}, {"def A.s", ""}, {"def A.w", ""}, {"def E.x", ""}, {"def B.w", "(1,1)"}, {"def B.x", ""},
		{"sig A.y", "(a>b)"}, {"sig A.s", "I"}, {"sig A.x", ""}, {"sig A.w", ""}, {"sig B.p", "a"}, {"sig E.y", ""},
		{"steps A.x", ""}, {"steps A.y", "D.q|A.z|"}, {"steps A.z", "B.w|D.q|A.z|"}, {"steps A.s", ""}, {"steps A.v", ""}, {"steps D.q", "A.x|"}, {"steps E.x", ""},
		{"type A.x", "I"}, {"type A.y", "(a>b)"}, {"type A.z", "cycle"}, {"type A.s", "none"}, {"type A.v", "word w"}, {"type A.w", "none"}, {"type D.q", "(a>I)"}, {"type B.w", "(I*I)"}, {"type B.p", "a"}, {"type E.z", "none"},
		{"face A", "x : I|y : (a>b)|"}, {"face B", "w : (I*I)|p : a|"}, {"face D", "q : (a>I)|"}, {"face E", ""},
	} {
		q := askedOf(c.question)
		if q.String() != c.question {
			t.Fatalf("%s became %v", c.question, q)
		}
		if _, got := askBase(t, openBase(t, files), q); bars(got) != c.want {
			t.Errorf("%s = %q", c.question, got)
		}
	}
}

// TestTypeAnswers has each kind of answer to AskType.
func TestTypeAnswers(t *testing.T) {
	for _, c := range []struct {
		files []impl.File
		want  string
	}{
		{filesOf("A", "x = 1"), "I"}, {filesOf("A", "x = \\y.\\z.y"), "(a>(b>a))"}, {filesOf("A", "x = y\ny = \\z.z"), "(a>a)"}, {filesOf("A", "y = \\z.z\nx = ((y 1),(y y))"), "(I*(a>a))"},
		{filesOf("A", ""), "none"}, {filesOf("A", "x : I"), "none"}, {filesOf("A", "x = (", "B", "x = 1"), "none"}, {filesOf("A", "use B\ny = 1", "B", "x = 1"), "none"},
		// The signature, whatever the definition is, but not without one.
		{filesOf("A", "x : (c>c)\nx = 1"), "(a>a)"}, {filesOf("A", "x : I\nx = x"), "I"}, {filesOf("A", "x : b\nx = w"), "a"}, {filesOf("A", "x = (1 1)\nx : I\nx : a"), "I"}, {filesOf("A", "x : I\nx = y\ny = y"), "I"},
		{filesOf("A", "x = x"), "cycle"}, {filesOf("A", "x = y\ny = z\nz = (x,w)"), "cycle"}, {filesOf("A", "x = (y,w)\ny = x"), "cycle"}, {filesOf("A", "use B\nx = B.x", "B", "use A\nx = A.x"), "cycle"}, {filesOf("A", "x = (h,x)\nh = (1 1)"), "cycle"},
		{filesOf("A", "x = (y,z)\ny = y\nz = z"), "block"}, {filesOf("A", "x = y\ny = z\nz = y"), "block"}, {filesOf("A", "x = y\ny : I\ny = x"), "I"}, {filesOf("A", "x = y\ny = z\nz : I\nz = x"), "I"},
		{filesOf("A", "x = w"), "word w"}, {filesOf("A", "x = (v,(w,x))\nv = 1"), "cycle"}, {filesOf("A", "x = (v,w)\nv = 1"), "word w"}, {filesOf("A", "x = ((1 1),(w,v))"), "word w"}, {filesOf("A", "x = (h,w)\nh = (1 1)"), "word w"},
		{filesOf("A", "x = B.y", "B", "y = 1"), "word B.y"}, {filesOf("A", "use B\nx = B.z", "B", "y = 1"), "word B.z"}, {filesOf("A", "use B\nx = B.y"), "word B.y"}, {filesOf("A", "use A\nx = A.y\ny = 1"), "word A.y"}, {filesOf("A", "use B\nx = y", "B", "y = 1"), "word y"}, {filesOf("A", "use B\nx = C.y", "B", "use C", "C", "y = 1"), "word C.y"},
		{filesOf("A", "x = h\nh = (1 1)"), "block"}, {filesOf("A", "x = h\nh = w"), "block"}, {filesOf("A", "x = h\nh = h"), "block"}, {filesOf("A", "x = (1 h)\nh = k\nk = w"), "block"}, {filesOf("A", "use B\nx = B.y", "B", "y = A.x"), "block"}, {filesOf("A", "x = (1,h)\nh = (e,e)\n"+doubled), "block"},
		{filesOf("A", doubled+"x = (e,e)"), "large"}, {filesOf("A", doubled+"x = {y=(e,e);(1 1)}"), "large"},
		{filesOf("A", "x = (1 1)"), "type"}, {filesOf("A", "x = \\y.(y y)"), "type"}, {filesOf("A", "x = ^y\ny = 1"), "type"}, {filesOf("A", "x = (y+1)\ny : a\ny = w"), "I"}, {filesOf("A", "x = (y+1)\ny : (a*a)\ny = w"), "type"},
	} {
		if _, got := askBase(t, openBase(t, c.files), asked{impl.AskType, "A", "x"}); got != c.want {
			t.Errorf("%q: the answer is %q, not %q", c.files, got, c.want)
		}
	}
}

// TestMemos has all memos of a first question, with the order of Memos and of Needs.
func TestMemos(t *testing.T) {
	for _, c := range []struct {
		files    []impl.File
		question string
		want     []string
	}{
		{filesOf("A", "x = 1"), "text A", []string{"0 text A = x = 1 ; 0 0 ;"}},
		{filesOf("A", "x = 1\nuse B\n", "B", "("), "uses A", []string{"0 text A = x = 1|use B| ; 0 0 ;", "1 uses A = B| ; 0 0 ; 0"}},
		{filesOf("A", "x = 1"), "names A", []string{"0 text A = x = 1 ; 0 0 ;", "1 names A = x| ; 0 0 ; 0"}},
		{filesOf("A", "x = 1"), "def A.x", []string{"0 text A = x = 1 ; 0 0 ;", "1 def A.x = 1 ; 0 0 ; 0"}},
		{filesOf("A", "x = 1"), "sig A.y", []string{"0 text A = x = 1 ; 0 0 ;", "1 sig A.y =  ; 0 0 ; 0"}},
		{filesOf("A", "x = 1"), "steps A.y", []string{"0 text A = x = 1 ; 0 0 ;", "1 def A.y =  ; 0 0 ; 0", "2 steps A.y =  ; 0 0 ; 1"}},
		{filesOf("A", "x : I"), "type A.x", []string{"0 text A = x : I ; 0 0 ;", "1 def A.x =  ; 0 0 ; 0", "2 type A.x = none ; 0 0 ; 1"}},
		{filesOf("A", "x : I\nx = w"), "type A.x", []string{"0 text A = x : I|x = w ; 0 0 ;", "1 def A.x = w ; 0 0 ; 0", "2 sig A.x = I ; 0 0 ; 0", "3 type A.x = I ; 0 0 ; 1 2"}},
		{filesOf("A", "x = x"), "type A.x", []string{"0 text A = x = x ; 0 0 ;", "1 def A.x = x ; 0 0 ; 0", "2 sig A.x =  ; 0 0 ; 0", "3 names A = x| ; 0 0 ; 0", "4 steps A.x = A.x| ; 0 0 ; 1 3 2", "5 type A.x = cycle ; 0 0 ; 1 2 4"}},
		{filesOf("B", "", "A", ""), "face A", []string{"0 text A =  ; 0 0 ;", "1 names A =  ; 0 0 ; 0", "2 face A =  ; 0 0 ; 1"}},
		{filesOf("A", "x = 1\ny = (x+1)\n"), "type A.y", []string{
			"0 text A = x = 1|y = (x+1)| ; 0 0 ;", "1 def A.y = (x+1) ; 0 0 ; 0", "2 sig A.y =  ; 0 0 ; 0", "3 names A = x|y| ; 0 0 ; 0", "4 sig A.x =  ; 0 0 ; 0",
			"5 steps A.y = A.x| ; 0 0 ; 1 3 4", "6 def A.x = 1 ; 0 0 ; 0", "7 steps A.x =  ; 0 0 ; 6", "8 type A.x = I ; 0 0 ; 6 4 7", "9 type A.y = I ; 0 0 ; 1 2 5 7 3 8",
		}},
		// A name of another file, and the first of two that cannot be used.
		{filesOf("B", "y = \\v.v\n", "A", "use B\nx = (B.y,(C.z,w))\n"), "type A.x", []string{
			"0 text A = use B|x = (B.y,(C.z,w))| ; 0 0 ;", "1 def A.x = (B.y,(C.z,w)) ; 0 0 ; 0", "2 sig A.x =  ; 0 0 ; 0", "3 uses A = B| ; 0 0 ; 0", "4 text B = y = \\v.v| ; 0 0 ;", "5 names B = y| ; 0 0 ; 4", "6 sig B.y =  ; 0 0 ; 4",
			"7 names A = x| ; 0 0 ; 0", "8 steps A.x = B.y| ; 0 0 ; 1 3 5 6 7", "9 def B.y = \\v.v ; 0 0 ; 4", "10 steps B.y =  ; 0 0 ; 9", "11 type A.x = word C.z ; 0 0 ; 1 2 8 10 3 5",
		}},
		{filesOf("A", "x = 1\ny = w\nz = x\ny = 2"), "face A", []string{
			"0 text A = x = 1|y = w|z = x|y = 2 ; 0 0 ;", "1 names A = x|y|z| ; 0 0 ; 0", "2 def A.x = 1 ; 0 0 ; 0", "3 sig A.x =  ; 0 0 ; 0", "4 steps A.x =  ; 0 0 ; 2", "5 type A.x = I ; 0 0 ; 2 3 4",
			"6 def A.y = w ; 0 0 ; 0", "7 sig A.y =  ; 0 0 ; 0", "8 steps A.y =  ; 0 0 ; 6 1", "9 type A.y = word w ; 0 0 ; 6 7 8 1",
			"10 def A.z = x ; 0 0 ; 0", "11 sig A.z =  ; 0 0 ; 0", "12 steps A.z = A.x| ; 0 0 ; 10 1 3", "13 type A.z = I ; 0 0 ; 10 11 12 4 1 5", "14 face A = x : I|z : I| ; 0 0 ; 1 5 9 13",
		}},
		// A signed name is no step, but its type is needed.
		{filesOf("A", "f : (b>b)\nf = \\x.(g x)\ng = (f,f)"), "type A.g", []string{
			"0 text A = f : (b>b)|f = \\x.(g x)|g = (f,f) ; 0 0 ;", "1 def A.g = (f,f) ; 0 0 ; 0", "2 sig A.g =  ; 0 0 ; 0", "3 names A = f|g| ; 0 0 ; 0", "4 sig A.f = (a>a) ; 0 0 ; 0", "5 steps A.g =  ; 0 0 ; 1 3 4",
			"6 def A.f = \\x.(g x) ; 0 0 ; 0", "7 type A.f = (a>a) ; 0 0 ; 6 4", "8 type A.g = ((a>a)*(b>b)) ; 0 0 ; 1 2 5 3 7",
		}},
		// Behind the first name without a type, none is asked for.
		{filesOf("A", "m = (h,k)\nh = (1 1)\nk = 1"), "type A.m", []string{
			"0 text A = m = (h,k)|h = (1 1)|k = 1 ; 0 0 ;", "1 def A.m = (h,k) ; 0 0 ; 0", "2 sig A.m =  ; 0 0 ; 0", "3 names A = m|h|k| ; 0 0 ; 0", "4 sig A.h =  ; 0 0 ; 0", "5 sig A.k =  ; 0 0 ; 0", "6 steps A.m = A.h|A.k| ; 0 0 ; 1 3 4 5",
			"7 def A.h = (1 1) ; 0 0 ; 0", "8 steps A.h =  ; 0 0 ; 7", "9 def A.k = 1 ; 0 0 ; 0", "10 steps A.k =  ; 0 0 ; 9", "11 type A.h = type ; 0 0 ; 7 4 8", "12 type A.m = block ; 0 0 ; 1 2 6 8 10 3 11",
		}},
	} {
		b, _ := askBase(t, openBase(t, c.files), askedOf(c.question))
		if got := memoTexts(b.Memos); !slices.Equal(got, c.want) || b.Work != len(c.want) {
			t.Errorf("%q: after %s, there are, with the work %d,\n%s", c.files, c.question, b.Work, strings.Join(got, "\n"))
		}
		for i, m := range b.Memos {
			if at, ok := impl.MemoOf(b, m.Kind, m.File, m.Name); !ok || at != i {
				t.Errorf("%q: MemoOf(%v) = %d, %v", c.files, askedBy(m), at, ok)
			}
		}
	}
}

// TestNeedsOnce has answers that need others more than once, and in several ways.
func TestNeedsOnce(t *testing.T) {
	for _, c := range []struct{ text, question, want string }{
		// The steps of the steps come behind all steps of the name.
		{"x = (y,z)\ny = w\nz = 1\nw = 1", "type A.x", "def A.x, sig A.x, steps A.x, steps A.y, steps A.z, steps A.w, names A, type A.y, type A.z"},
		{"x = (y,(z,(y,(v,y))))\ny = v\nz = v\nv = 1", "type A.x", "def A.x, sig A.x, steps A.x, steps A.y, steps A.z, steps A.v, names A, type A.y, type A.z, type A.v"},
		// Also behind the first way back, and with the steps of the name itself only once.
		{"x = (x,(y,z))\ny = x\nz = w\nw = x", "type A.x", "def A.x, sig A.x, steps A.x, steps A.y, steps A.z, steps A.w"}, {"x = y\ny = (z,y)\nz = y", "type A.x", "def A.x, sig A.x, steps A.x, steps A.y, steps A.z, names A, type A.y"},
		{"x = (y,(w,z))\ny = y\nz = 1", "type A.x", "def A.x, sig A.x, steps A.x, steps A.y, steps A.z, names A"},
		{"use B\nx = (B.y,(B.z,(y,(B.q,B.y))))\ny = 1", "steps A.x", "def A.x, uses A, names B, sig B.y, sig B.z, names A, sig A.y"},
		{"use B\nx = (B.y,(B.z,(y,(B.q,B.y))))\ny = 1", "type A.x", "def A.x, sig A.x, steps A.x, steps B.y, steps B.z, steps A.y, uses A, names B, names A"},
		{"use B\nx = (B.y,(y,B.z))\ny = B.z\ny : I", "type A.x", "def A.x, sig A.x, steps A.x, steps B.y, steps B.z, uses A, names B, names A, type B.y, type A.y, type B.z"},
		{"y = 1\nx = y\ny = 2\nx = y", "face A", "names A, type A.y, type A.x"},
	} {
		b, _ := askBase(t, openBase(t, filesOf("A", c.text, "B", "y = 1\nz = (y,y)")), askedOf(c.question))
		var needs []string
		for _, need := range b.Memos[len(b.Memos)-1].Needs {
			needs = append(needs, askedBy(b.Memos[need]).String())
		}
		if got := strings.Join(needs, ", "); got != c.want {
			t.Errorf("%q: %s needs %s", c.text, c.question, got)
		}
	}
}

// plainBase follows the chapter word by word, except that the answers come
// from the chapters 5 and 6.
type plainBase struct{ impl.Base }

func (p *plainBase) file(name string) int {
	return slices.IndexFunc(p.Files, func(f impl.File) bool { return f.Name == name })
}

func (p *plainBase) place(q asked) int {
	return slices.IndexFunc(p.Memos, func(m impl.Memo) bool { return askedBy(m) == q })
}

func (p *plainBase) update(q asked) int {
	at := p.place(q)
	if at >= 0 && p.Memos[at].Checked == p.Now {
		return at
	}
	if at >= 0 && !p.outdated(p.Memos[at]) {
		p.Memos[at].Checked = p.Now
		return at
	}
	var needs []int
	p.askNeeds(q, func(kind int, file, name string) string {
		need := p.update(asked{kind, file, name})
		if !slices.Contains(needs, need) {
			needs = append(needs, need)
		}
		return p.Memos[need].Answer
	})
	p.Work++
	m := impl.Memo{Kind: q.kind, File: q.file, Name: q.name, Answer: plainAnswer(p.Files, q), Checked: p.Now, Changed: p.Now, Needs: needs}
	if at < 0 {
		p.Memos = append(p.Memos, m)
		return len(p.Memos) - 1
	}
	if p.Memos[at].Answer == m.Answer {
		m.Changed = p.Memos[at].Changed
	}
	p.Memos[at] = m
	return at
}

func (p *plainBase) outdated(m impl.Memo) bool {
	if m.Kind == impl.AskText {
		return p.Edits[p.file(m.File)] > m.Checked
	}
	for _, need := range m.Needs {
		p.update(askedBy(p.Memos[need]))
		if p.Memos[need].Changed > m.Checked {
			return true
		}
	}
	return false
}

// askNeeds asks the questions to which another one needs the answers.
func (p *plainBase) askNeeds(q asked, ask func(kind int, file, name string) string) {
	lines := func(answer string) []string { return slices.Collect(strings.Lines(answer)) }
	lookFor := func(text string) (file, name string, found bool) {
		file, name = q.file, text
		if len(text) == 3 {
			file, name = text[:1], text[2:]
			if !slices.Contains(lines(ask(impl.AskUses, q.file, "")), file+"\n") {
				return "", "", false
			}
		}
		return file, name, slices.Contains(lines(ask(impl.AskNames, file, "")), name+"\n")
	}
	freeNames := func() []string {
		e, _ := impl.ParseExpr(ask(impl.AskDef, q.file, q.name))
		return impl.FreeNames(e)
	}
	switch q.kind {
	case impl.AskUses, impl.AskNames, impl.AskDef, impl.AskSig:
		ask(impl.AskText, q.file, "")
	case impl.AskSteps:
		for _, text := range freeNames() {
			if file, name, found := lookFor(text); found {
				ask(impl.AskSig, file, name)
			}
		}
	case impl.AskFace:
		for _, name := range lines(ask(impl.AskNames, q.file, "")) {
			ask(impl.AskType, q.file, name[:1])
		}
	case impl.AskType:
		if ask(impl.AskDef, q.file, q.name) == "" || ask(impl.AskSig, q.file, q.name) != "" {
			return
		}
		list, treated := lines(ask(impl.AskSteps, q.file, q.name)), map[string]bool{}
		for i := 0; i < len(list); i++ {
			if !treated[list[i]] {
				treated[list[i]] = true
				list = append(list, lines(ask(impl.AskSteps, list[i][:1], list[i][2:3]))...)
			}
		}
		if treated[q.file+"."+q.name+"\n"] {
			return
		}
		for _, text := range freeNames() {
			if _, _, found := lookFor(text); !found {
				return
			}
		}
		for _, text := range freeNames() {
			file, name, _ := lookFor(text)
			if _, ok := impl.ParseType(ask(impl.AskType, file, name)); !ok {
				return
			}
		}
	}
}

// plainAnswer is the answer by the functions of the chapters 5 and 6.
func plainAnswer(files []impl.File, q asked) string {
	text, _ := impl.FindFile(files, q.file)
	list := func(names []string) string { return strings.Join(append(names, ""), "\n") }
	switch q.kind {
	case impl.AskText:
		return text
	case impl.AskUses:
		return list(slices.DeleteFunc(impl.UsesOf(text), func(other string) bool {
			_, exists := impl.FindFile(files, other)
			return !exists || other == q.file
		}))
	case impl.AskNames:
		return list(impl.NamesOf(text))
	case impl.AskDef:
		if line, ok := impl.DefLine(text, q.name); ok {
			_, def, _ := strings.Cut(strings.Split(text, "\n")[line], " = ")
			return def
		}
	case impl.AskSig:
		x, _ := impl.SigOf(text, q.name)
		return impl.FormatType(x)
	case impl.AskSteps:
		return list(slices.DeleteFunc(impl.DepsOf(files, q.file, q.name), func(full string) bool {
			other, _ := impl.FindFile(files, full[:1])
			_, signed := impl.SigOf(other, full[2:])
			return signed
		}))
	case impl.AskType:
		x, code := impl.TypeOf(files, q.file, q.name)
		_, word := impl.CodeOf(files, q.file, q.name)
		if code == impl.NameOk {
			return impl.FormatType(x)
		}
		return strings.TrimSpace(codeWords()[code] + " " + word)
	case impl.AskFace:
		return impl.FaceOf(files, q.file)
	}
	return ""
}

func (p *plainBase) edit(file string, e impl.Edit) bool {
	at := p.file(file)
	if at < 0 {
		return false
	}
	text, ok := impl.ApplyEdit(p.Files[at].Text, e)
	if !ok || strings.Count(text, "\n") >= impl.MaxFileLine {
		return false
	}
	p.Now++
	if text != p.Files[at].Text {
		p.Edits[at] = p.Now
	}
	p.Files[at].Text = text
	return true
}

// clean looks for each question that is needed again, instead of its place.
func (p *plainBase) clean() bool {
	var kept []impl.Memo
	for _, m := range p.Memos {
		if m.Checked == p.Now {
			kept = append(kept, m)
		}
	}
	for i, m := range kept {
		kept[i].Needs = nil
		for _, need := range m.Needs {
			at := slices.IndexFunc(kept, func(other impl.Memo) bool { return askedBy(other) == askedBy(p.Memos[need]) })
			if at < 0 {
				p.Base = impl.Base{}
				return false
			}
			kept[i].Needs = append(kept[i].Needs, at)
		}
	}
	p.Memos = kept
	return true
}

// isThis checks that a base is that of p.
func (p *plainBase) isThis(t *testing.T, b impl.Base, after string) {
	t.Helper()
	if !impl.BaseValid(b) && !zeroBase(b) || !sameBase(b, p.Base) {
		t.Fatalf("%q: %s yields\n%s\nnot\n%s", b.Files, after, baseText(b), baseText(p.Base))
	}
}

func baseText(b impl.Base) string {
	return "now " + strconv.Itoa(b.Now) + ", work " + strconv.Itoa(b.Work) + ", edits" + editsText(b) + "\n" + strings.Join(memoTexts(b.Memos), "\n")
}

func editsText(b impl.Base) string {
	text := ""
	for _, edit := range b.Edits {
		text += " " + strconv.Itoa(edit)
	}
	return text
}

// baseStep is what is done with a base, and what comes of it: a question, with
// its answer, the increase of Work, and the questions whose Changed is another
// one now; an edit, written as the file, what it replaces and by what, between
// slashes, with Now and Edits; or clean, with the number of memos.
type baseStep struct{ do, want string }

// done does a step, and compares the base with that of a plainBase.
func (s baseStep) done(t *testing.T, b impl.Base) (impl.Base, string) {
	t.Helper()
	p := plainBase{deepBase(b)}
	var c impl.Base
	var got string
	switch parts := strings.Split(s.do, "/"); {
	case s.do == "clean":
		var ok bool
		if c, ok = impl.CleanBase(b); ok != p.clean() {
			t.Fatalf("%s: CleanBase = %v", baseText(b), ok)
		}
		got = strconv.Itoa(len(c.Memos)) + " memos"
	case len(parts) == 3:
		text, _ := impl.FindFile(b.Files, parts[0])
		from := strings.Index(text, parts[1])
		e := impl.Edit{From: from, To: from + len(parts[1]), Insert: parts[2]}
		var ok bool
		if c, ok = impl.EditBase(b, parts[0], e); !ok || !p.edit(parts[0], e) {
			t.Fatalf("%q: %s cannot be done", b.Files, s.do)
		}
		got = strconv.Itoa(c.Now) + ":" + editsText(c)
	default:
		var answer string
		c, answer = askBase(t, b, askedOf(s.do))
		p.update(askedOf(s.do))
		var changed []string
		for i, m := range c.Memos {
			if i >= len(b.Memos) || m.Changed != b.Memos[i].Changed {
				changed = append(changed, askedBy(m).String())
			}
		}
		got = bars(answer) + " +" + strconv.Itoa(c.Work-b.Work) + ": " + strings.Join(changed, ", ")
	}
	p.isThis(t, c, s.do)
	return c, strings.TrimSuffix(got, ": ")
}

func checkSteps(t *testing.T, files []impl.File, steps ...baseStep) {
	t.Helper()
	b := openBase(t, files)
	for i, s := range steps {
		var got string
		if b, got = s.done(t, b); got != s.want {
			t.Errorf("%q, step %d: %s yields %s, not %s", files, i, s.do, got, s.want)
		}
	}
}

// twoNames are files in which A.y uses A.x, and B.z uses A.y; firstOfTwo asks for the type of A.y.
func twoNames() []impl.File {
	return filesOf("A", "x = 1\ny = (x+1)\n", "B", "use A\nz = A.y\n")
}

func firstOfTwo() baseStep {
	return baseStep{"type A.y", "I +10: text A, def A.y, sig A.y, names A, sig A.x, steps A.y, def A.x, steps A.x, type A.x, type A.y"}
}

// TestSameAnswers has answers that stay the same, so that those that need them are not found anew.
func TestSameAnswers(t *testing.T) {
	checkSteps(t, twoNames(), firstOfTwo(), baseStep{"type A.y", "I +0"}, baseStep{"A/1/2", "1: 1 0"}, baseStep{"type A.y", "I +8: text A, def A.x"}, baseStep{"type A.y", "I +0"}, baseStep{"type A.x", "I +0"},
		baseStep{"face B", "z : I| +8: text B, names B, def B.z, sig B.z, uses B, steps B.z, type B.z, face B"}, baseStep{"face B", "z : I| +0"}, baseStep{"A/2/3", "2: 2 0"}, baseStep{"face B", "z : I| +8: text A, def A.x"})
	checkSteps(t, twoNames(), firstOfTwo(), baseStep{"A/x = 1/x = (1,1)", "1: 1 0"}, baseStep{"type A.y", "type +9: text A, def A.x, type A.x, type A.y"}, baseStep{"A/(1,1)/^(2,1)", "2: 2 0"}, baseStep{"type A.y", "I +9: text A, def A.x, type A.x, type A.y"})
	// The text changes, but nothing that depends on it.
	checkSteps(t, twoNames(), firstOfTwo(), baseStep{"A//-- x\n", "1: 1 0"}, baseStep{"type A.y", "I +6: text A"}, baseStep{"A/-- x/", "2: 2 0"}, baseStep{"type A.y", "I +6: text A"})
	checkSteps(t, twoNames(), firstOfTwo(), baseStep{"A/y = /\n(\ny = ", "1: 1 0"}, baseStep{"type A.y", "I +6: text A"}, baseStep{"names A", "x|y| +0"})
	checkSteps(t, twoNames(), baseStep{"names A", "x|y| +2: text A, names A"}, baseStep{"A/1/(1,1)", "1: 1 0"}, baseStep{"names A", "x|y| +2: text A"}, baseStep{"def A.y", "(x+1) +1: def A.y"}, baseStep{"A/x = (1,1)/w = 1", "2: 2 0"}, baseStep{"def A.y", "(x+1) +2: text A"}, baseStep{"names A", "w|y| +1: names A"})
	// The text stays the same, or becomes the same again, or is that of another file.
	checkSteps(t, twoNames(), firstOfTwo(), baseStep{"A/1/1", "1: 0 0"}, baseStep{"A//", "2: 0 0"}, baseStep{"type A.y", "I +0"})
	checkSteps(t, twoNames(), firstOfTwo(), baseStep{"A/1/2", "1: 1 0"}, baseStep{"A/2/1", "2: 2 0"}, baseStep{"type A.y", "I +1"}, baseStep{"A/1/1", "3: 2 0"}, baseStep{"type A.y", "I +0"})
	checkSteps(t, twoNames(), firstOfTwo(), baseStep{"B/z/y", "1: 0 1"}, baseStep{"type A.y", "I +0"}, baseStep{"A/y/z", "2: 2 1"}, baseStep{"text B", "use A|y = A.y| +1: text B"}, baseStep{"B/y/z", "3: 2 3"}, baseStep{"uses B", "A| +2: text B, uses B"},
		baseStep{"A/z/y", "4: 4 3"}, baseStep{"uses B", "A| +0"}, baseStep{"type A.y", "I +1"})
	// Edited again between the questions, so that some answers were checked later than others.
	checkSteps(t, twoNames(), firstOfTwo(), baseStep{"A/1/2", "1: 1 0"}, baseStep{"text A", "x = 2|y = (x+1)| +1: text A"}, baseStep{"A/2/3", "2: 2 0"}, baseStep{"def A.x", "3 +2: text A, def A.x"}, baseStep{"type A.y", "I +6"})
	checkSteps(t, twoNames(), firstOfTwo(), baseStep{"A/1/(1,1)", "1: 1 0"}, baseStep{"def A.x", "(1,1) +2: text A, def A.x"}, baseStep{"A/x+1/x+2", "2: 2 0"}, baseStep{"type A.y", "type +10: text A, def A.y, type A.x, type A.y"})
}

// TestOtherNeeds has edits after which answers need others than before.
func TestOtherNeeds(t *testing.T) {
	// A name gets a definition, and loses it.
	checkSteps(t, filesOf("A", "y = x\n"), baseStep{"type A.y", "word x +6: text A, def A.y, sig A.y, names A, steps A.y, type A.y"}, baseStep{"A//x = 1\n", "1: 1"}, baseStep{"type A.y", "I +10: text A, names A, steps A.y, type A.y, sig A.x, def A.x, steps A.x, type A.x"},
		baseStep{"A/x = 1\n/", "2: 2"}, baseStep{"type A.y", "word x +6: text A, names A, steps A.y, type A.y"}, baseStep{"clean", "6 memos"}, baseStep{"type A.x", "none +2: def A.x, type A.x"}, baseStep{"face A", " +1: face A"})
	checkSteps(t, filesOf("A", "x : I\ny = x\n"), baseStep{"type A.x", "none +3: text A, def A.x, type A.x"}, baseStep{"type A.y", "word x +5: def A.y, sig A.y, names A, steps A.y, type A.y"}, baseStep{"A/y/x = 1\ny", "1: 1"},
		baseStep{"type A.y", "I +9: text A, def A.x, type A.x, names A, type A.y, sig A.x"})
	// A file is used for the first time, and then not any more.
	checkSteps(t, filesOf("A", "x = B.y\n", "B", "y = 1"), baseStep{"type A.x", "word B.y +6: text A, def A.x, sig A.x, uses A, steps A.x, type A.x"}, baseStep{"A//use B\n", "1: 1 0"},
		baseStep{"type A.x", "I +12: text A, uses A, steps A.x, type A.x, text B, names B, sig B.y, def B.y, steps B.y, type B.y"}, baseStep{"B/1/w", "2: 1 2"}, baseStep{"type A.x", "block +7: type A.x, text B, def B.y, type B.y"},
		baseStep{"A/use B/use C", "3: 3 2"}, baseStep{"type A.x", "word B.y +6: text A, uses A, steps A.x, type A.x"})
	// A circle closes, and a signature opens it.
	x := baseStep{"type A.x", "I +10: text A, def A.x, sig A.x, names A, sig A.y, steps A.x, def A.y, steps A.y, type A.y, type A.x"}
	checkSteps(t, filesOf("A", "x = y\ny = 1\n"), x, baseStep{"A/y = 1/y = x", "1: 1"}, baseStep{"type A.x", "cycle +8: text A, def A.y, steps A.y, type A.x"}, baseStep{"clean", "9 memos"}, baseStep{"type A.y", "cycle +1: type A.y"},
		baseStep{"A//y : I\n", "2: 2"}, baseStep{"type A.y", "I +4: text A, sig A.y, type A.y"}, baseStep{"type A.x", "I +5: steps A.x, type A.x"})
	// A name begins to need the one that needed it, and then the other way round again.
	checkSteps(t, filesOf("A", "x = y\ny = 1\n"), x, baseStep{"A/y\ny = 1/1\ny = x", "1: 1"}, baseStep{"type A.x", "I +5: text A, def A.x, steps A.x"}, baseStep{"type A.y", "I +5: def A.y, steps A.y"},
		baseStep{"A/1\ny = x/y\ny = (1 1)", "2: 2"}, baseStep{"type A.y", "type +5: text A, def A.y, steps A.y, type A.y"}, baseStep{"type A.x", "block +5: def A.x, steps A.x, type A.x"})
	// A name is blocked until what blocks it is signed.
	checkSteps(t, filesOf("A", "z = y\ny = (1 1)\n"), baseStep{"type A.z", "block +10: text A, def A.z, sig A.z, names A, sig A.y, steps A.z, def A.y, steps A.y, type A.y, type A.z"}, baseStep{"A/(1 1)/(2 2)", "1: 1"}, baseStep{"type A.z", "block +8: text A, def A.y"},
		baseStep{"A//y : I\n", "2: 2"}, baseStep{"type A.z", "I +9: text A, sig A.y, steps A.z, type A.y, type A.z"})
}

// TestCleanSteps cleans bases between questions and edits.
func TestCleanSteps(t *testing.T) {
	checkSteps(t, filesOf("A", "", "B", ""), baseStep{"clean", "0 memos"}, baseStep{"face A", " +3: text A, names A, face A"}, baseStep{"clean", "3 memos"}, baseStep{"A//", "1: 0 0"}, baseStep{"clean", "0 memos"}, baseStep{"face A", " +3: text A, names A, face A"},
		baseStep{"B//", "2: 0 0"}, baseStep{"names A", " +0"}, baseStep{"clean", "2 memos"}, baseStep{"face A", " +1: face A"}, baseStep{"B//x = 1", "3: 0 3"}, baseStep{"names A", " +0"}, baseStep{"names B", "x| +2: text B, names B"}, baseStep{"clean", "4 memos"}, baseStep{"face A", " +1: face A"})
	checkSteps(t, twoNames(), baseStep{"face B", "z : I| +18: text B, names B, def B.z, sig B.z, uses B, text A, names A, sig A.y, steps B.z, def A.y, sig A.x, steps A.y, def A.x, steps A.x, type A.x, type A.y, type B.z, face B"},
		baseStep{"A/1/2", "1: 1 0"}, baseStep{"type A.y", "I +8: text A, def A.x"}, baseStep{"clean", "10 memos"}, baseStep{"face B", "z : I| +8: text B, names B, def B.z, sig B.z, uses B, steps B.z, type B.z, face B"}, baseStep{"clean", "18 memos"}, baseStep{"face B", "z : I| +0"})
}

func TestEditBase(t *testing.T) {
	b := openBase(t, filesOf("B", "x = 1\ny = 2", "A", "", "C", strings.Repeat("-", impl.MaxText-1), "D", strings.Repeat("\n", impl.MaxFileLine-1)))
	b, _ = askBase(t, b, asked{impl.AskFace, "B", ""})
	b, _ = askBase(t, b, asked{impl.AskUses, "D", ""})
	for _, c := range []struct {
		file string
		edit impl.Edit
		want string
	}{
		{"B", impl.Edit{From: 4, To: 5, Insert: "23"}, "x = 23\ny = 2"}, {"B", impl.Edit{From: 11, To: 11, Insert: "\n("}, "x = 1\ny = 2\n("}, {"B", impl.Edit{From: 0, To: 11}, ""}, {"A", impl.Edit{Insert: strings.Repeat("\n", impl.MaxFileLine-1)}, strings.Repeat("\n", impl.MaxFileLine-1)},
		{"C", impl.Edit{From: impl.MaxText - 1, To: impl.MaxText - 1, Insert: "-"}, strings.Repeat("-", impl.MaxText)}, {"D", impl.Edit{From: 3, To: 4, Insert: "\n"}, strings.Repeat("\n", impl.MaxFileLine-1)}, {"A", impl.Edit{}, ""}, {"B", impl.Edit{From: 5, To: 10, Insert: "\ny = "}, "x = 1\ny = 2"},
	} {
		d := b
		// Three times, so that it is seen what is counted and what is put.
		for range 3 {
			before, _ := impl.FindFile(d.Files, c.file)
			e, _ := impl.DiffEdit(before, c.want)
			if d.Now == 0 {
				e = c.edit
			}
			p := plainBase{deepBase(d)}
			var ok bool
			if d, ok = impl.EditBase(d, c.file, e); !ok || !p.edit(c.file, e) {
				t.Fatalf("EditBase(%s, %v) = %v", c.file, e, ok)
			}
			p.isThis(t, d, c.file)
		}
		at := slices.IndexFunc(d.Files, func(f impl.File) bool { return f.Name == c.file })
		edits := make([]int, len(b.Files))
		if c.want != b.Files[at].Text {
			edits[at] = 1
		}
		if d.Files[at].Text != c.want || d.Now != 3 || !slices.Equal(d.Edits, edits) || d.Work != b.Work || !slices.Equal(memoTexts(d.Memos), memoTexts(b.Memos)) {
			t.Errorf("EditBase(%s, %v) three times yields %s", c.file, c.edit, baseText(d))
		}
	}
	for _, c := range []struct {
		file string
		edit impl.Edit
	}{
		{"Q", impl.Edit{}}, {"", impl.Edit{}}, {"a", impl.Edit{}}, {"B ", impl.Edit{}}, {"AB", impl.Edit{}},
		{"B", impl.Edit{From: -1, To: 0}}, {"B", impl.Edit{From: 3, To: 2}}, {"B", impl.Edit{From: 0, To: 12}}, {"B", impl.Edit{From: 12, To: 12}}, {"A", impl.Edit{From: 0, To: 1}}, {"A", impl.Edit{From: 1, To: 1}},
		{"B", impl.Edit{Insert: "\t"}}, {"B", impl.Edit{Insert: "\xff"}}, {"B", impl.Edit{Insert: strings.Repeat("-", impl.MaxText)}}, {"C", impl.Edit{Insert: "--"}}, {"C", impl.Edit{From: 0, To: 1, Insert: "---"}},
		{"D", impl.Edit{Insert: "\n"}}, {"D", impl.Edit{From: 0, To: 1, Insert: "\n\n"}}, {"A", impl.Edit{Insert: strings.Repeat("\n", impl.MaxFileLine)}}, {"C", impl.Edit{From: 0, To: 100, Insert: strings.Repeat("\n", impl.MaxFileLine)}},
	} {
		if d, ok := impl.EditBase(b, c.file, c.edit); ok || !zeroBase(d) {
			t.Errorf("EditBase(%q, %v) = %v", c.file, c.edit, ok)
		}
	}
}

// TestNoQuestions has what cannot be asked.
func TestNoQuestions(t *testing.T) {
	files := filesOf("B", "use A\nx = 1", "A", "x = 1\nx : I")
	b, _ := askBase(t, openBase(t, files), asked{impl.AskFace, "A", ""})
	for _, base := range []impl.Base{b, openBase(t, files)} {
		check := func(q asked) {
			if c, answer := impl.AskBase(base, q.kind, q.file, q.name); !zeroBase(c) || answer != "" {
				t.Errorf("AskBase(%v) = %q, with %s", [3]any{q.kind, q.file, q.name}, answer, baseText(c))
			}
			if answer := impl.FreshAnswer(files, q.kind, q.file, q.name); answer != "" {
				t.Errorf("FreshAnswer(%v) = %q", [3]any{q.kind, q.file, q.name}, answer)
			}
		}
		for _, kind := range []int{-1 << 63, -8, -1, 0, 9, 10, 70, 1<<63 - 1} {
			check(asked{kind, "A", "x"})
			check(asked{kind, "A", ""})
		}
		for kind := impl.AskText; kind <= impl.AskFace; kind++ {
			names := append(badValueNames(), "")
			if !wantsName(kind) {
				names = append(badValueNames(), "x", "y", " ", "A.x")
			}
			for _, name := range slices.DeleteFunc(names, func(name string) bool { return name == "" && !wantsName(kind) }) {
				check(asked{kind, "A", name})
			}
			for _, file := range append(badFileNames(), "C", "Z", "x", "A.x", "BA") {
				check(asked{kind, file, ""})
				check(asked{kind, file, "x"})
			}
		}
	}
}

// TestNoFiles has files that are not valid, and none.
func TestNoFiles(t *testing.T) {
	for i, files := range append(invalidFiles(), nil, []impl.File{}) {
		for kind := 0; kind <= impl.AskFace+1; kind++ {
			for _, name := range []string{"", "x"} {
				if answer := impl.FreshAnswer(files, kind, "A", name); answer != "" {
					t.Errorf("list %d: FreshAnswer(%d, %q) = %q", i, kind, name, answer)
				}
				if c, answer := impl.AskBase(impl.Base{Files: files, Edits: make([]int, len(files))}, kind, "A", name); answer != "" || !zeroBase(c) {
					t.Errorf("list %d: AskBase(%d, %q) = %q", i, kind, name, answer)
				}
			}
		}
	}
	var none impl.Base
	if !impl.BaseValid(none) {
		t.Error("a base without files is not valid")
	}
	if c, ok := impl.CleanBase(none); !ok || !zeroBase(c) {
		t.Error("a base without files cannot be cleaned")
	}
	if c, ok := impl.EditBase(none, "A", impl.Edit{}); ok || !zeroBase(c) {
		t.Error("a base without files can be edited")
	}
}

// someBase is a valid base with memos of several numbers of edits.
func someBase(t *testing.T) impl.Base {
	t.Helper()
	b := openBase(t, filesOf("A", "x = 1\ny = (x+1)\n", "B", "use A\nz = A.y\n"))
	b, _ = askBase(t, b, asked{impl.AskFace, "B", ""})
	for _, s := range []baseStep{{"A/1/2", ""}, {"type A.y", ""}, {"B/y/x", ""}, {"A/2/3", ""}, {"steps B.z", ""}, {"sig B.q", ""}} {
		b, _ = s.done(t, b)
	}
	return b
}

// brokenBases are bases that are not valid, in each of the ways that the document names.
func brokenBases(t *testing.T) map[string]impl.Base {
	list := map[string]impl.Base{}
	put := func(name string, change func(b *impl.Base)) {
		b := deepBase(someBase(t))
		change(&b)
		list[name] = b
	}
	last := func(b *impl.Base) *impl.Memo { return &b.Memos[len(b.Memos)-1] }
	put("two files with one name", func(b *impl.Base) { b.Files[1].Name = "A" })
	put("no name of a file", func(b *impl.Base) { b.Files[1].Name = "b" })
	put("no text", func(b *impl.Base) { b.Files[0].Text += "\t" })
	put("too many lines", func(b *impl.Base) { b.Files[0].Text = strings.Repeat("\n", impl.MaxFileLine) })
	put("too many files", func(b *impl.Base) {
		b.Files = append(b.Files, filesOf("C", "", "D", "", "E", "")...)
		b.Edits = append(b.Edits, 0, 0, 0)
	})
	put("too few edits", func(b *impl.Base) { b.Edits = b.Edits[:1] })
	put("no edits", func(b *impl.Base) { b.Edits = nil })
	put("too many edits", func(b *impl.Base) { b.Edits = append(b.Edits, 0) })
	put("a negative edit", func(b *impl.Base) { b.Edits[0] = -1 })
	put("an edit to come", func(b *impl.Base) { b.Edits[1] = b.Now + 1 })
	put("less edits than one of a file", func(b *impl.Base) { b.Memos, b.Now = nil, 2 })
	put("negative edits", func(b *impl.Base) { b.Memos, b.Edits, b.Now = nil, []int{0, 0}, -1 })
	put("negative work", func(b *impl.Base) { b.Work = -1 })
	put("very little work", func(b *impl.Base) { b.Work = -1 << 63 })
	for _, kind := range []int{0, -1, 9, 1 << 62} {
		put("the kind "+strconv.Itoa(kind), func(b *impl.Base) { last(b).Kind = kind })
	}
	put("a question twice", func(b *impl.Base) { b.Memos = append(b.Memos, impl.Memo{Kind: impl.AskText, File: "A"}) })
	put("a question twice, with other answers", func(b *impl.Base) {
		b.Memos = append(b.Memos, impl.Memo{Kind: impl.AskSig, File: "B", Name: "q", Answer: "I", Checked: 2, Changed: 1, Needs: []int{0}})
	})
	put("a negative change", func(b *impl.Base) { last(b).Changed = -1 })
	put("checked before it changed", func(b *impl.Base) { last(b).Changed, last(b).Checked = 2, 1 })
	put("a negative check", func(b *impl.Base) { last(b).Changed, last(b).Checked = -2, -1 })
	put("a check to come", func(b *impl.Base) { last(b).Checked = b.Now + 1 })
	put("a change to come", func(b *impl.Base) { last(b).Changed, last(b).Checked = b.Now+1, b.Now+1 })
	put("a negative need", func(b *impl.Base) { last(b).Needs = append(last(b).Needs, -1) })
	put("a need that is not there", func(b *impl.Base) { last(b).Needs = []int{len(b.Memos), 0} })
	put("a need far away", func(b *impl.Base) { last(b).Needs = []int{0, 1 << 62} })
	put("too many needs", func(b *impl.Base) { last(b).Needs = make([]int, impl.MaxMemos+1) })
	put("very many needs", func(b *impl.Base) { last(b).Needs = make([]int, 1000000) })
	put("a need of itself", func(b *impl.Base) { last(b).Needs = []int{0, len(b.Memos) - 1} })
	put("two that need each other", func(b *impl.Base) { last(b).Needs, b.Memos[0].Needs = []int{0}, []int{len(b.Memos) - 1} })
	put("a text that needs a type", func(b *impl.Base) {
		_, ok := impl.MemoOf(*b, impl.AskType, "B", "z")
		for i, m := range b.Memos {
			if ok && m.Kind == impl.AskType && m.File == "B" {
				b.Memos[0].Needs = []int{i}
			}
		}
	})
	put("a circle that others need", func(b *impl.Base) {
		n := len(b.Memos)
		b.Memos = append(b.Memos, impl.Memo{Kind: 1, File: "X", Needs: []int{n + 1}}, impl.Memo{Kind: 1, File: "Y", Needs: []int{0, n + 2}}, impl.Memo{Kind: 1, File: "Z", Needs: []int{n + 3}}, impl.Memo{Kind: 2, File: "Z", Needs: []int{1, n + 1}})
	})
	put("a long circle", func(b *impl.Base) {
		b.Memos = manyMemos(impl.MaxMemos)
		b.Memos[0].Needs = []int{impl.MaxMemos - 1}
	})
	put("too many memos", func(b *impl.Base) { b.Memos = manyMemos(impl.MaxMemos + 1) })
	put("very many memos", func(b *impl.Base) { b.Memos = manyMemos(100000) })
	return list
}

// manyMemos are memos of which each one needs the one before it, and the first one.
func manyMemos(count int) []impl.Memo {
	memos := make([]impl.Memo, count)
	for i := range memos {
		memos[i] = impl.Memo{Kind: 1 + i%impl.AskFace, File: "file " + strconv.Itoa(i/impl.AskFace)}
		if i > 0 {
			memos[i].Needs = []int{i - 1, 0}
		}
	}
	return memos
}

func TestBaseValid(t *testing.T) {
	for name, b := range brokenBases(t) {
		if impl.BaseValid(b) {
			t.Errorf("a base with %s is valid", name)
		}
		for _, q := range []asked{{impl.AskText, "A", ""}, {impl.AskType, "B", "z"}, {impl.AskSig, "B", "q"}, {impl.AskFace, "A", ""}, {impl.AskText, "X", ""}} {
			if c, answer := impl.AskBase(b, q.kind, q.file, q.name); answer != "" || !zeroBase(c) {
				t.Errorf("with %s, AskBase(%v) = %q", name, q, answer)
			}
			if at, ok := impl.MemoOf(b, q.kind, q.file, q.name); ok || at != 0 {
				t.Errorf("with %s, MemoOf(%v) = %d, %v", name, q, at, ok)
			}
		}
		if c, ok := impl.EditBase(b, "A", impl.Edit{}); ok || !zeroBase(c) {
			t.Errorf("with %s, EditBase = %v", name, ok)
		}
		if c, ok := impl.CleanBase(b); ok || !zeroBase(c) {
			t.Errorf("with %s, CleanBase = %v", name, ok)
		}
	}
	for name, change := range map[string]func(b *impl.Base){
		"nothing changed":         func(b *impl.Base) {},
		"no memos":                func(b *impl.Base) { b.Memos = nil },
		"edits at the limit":      func(b *impl.Base) { b.Edits = []int{b.Now, 0} },
		"no work":                 func(b *impl.Base) { b.Work = 0 },
		"much work":               func(b *impl.Base) { b.Work = 1<<63 - 1 },
		"very many edits":         func(b *impl.Base) { b.Now, b.Edits[0] = 1<<63-1, 1<<63-1 },
		"a memo at the limit":     func(b *impl.Base) { b.Memos[0].Changed, b.Memos[0].Checked = b.Now, b.Now },
		"a memo at the other one": func(b *impl.Base) { b.Memos[0].Changed, b.Memos[0].Checked = 0, 0 },
		"needs twice":             func(b *impl.Base) { b.Memos[1].Needs = []int{0, 0, 0} },
		"no needs":                func(b *impl.Base) { b.Memos[1].Needs = nil },
		"needs of later ones": func(b *impl.Base) {
			b.Memos[0].Needs = []int{len(b.Memos) - 1}
			b.Memos[len(b.Memos)-1].Needs = nil
			b.Memos[1].Needs = nil
		},
		"all needs": func(b *impl.Base) { b.Memos[1].Needs = make([]int, impl.MaxMemos) },
		"all memos": func(b *impl.Base) { b.Memos = manyMemos(impl.MaxMemos) },
		"strange questions": func(b *impl.Base) {
			b.Memos = append(b.Memos, impl.Memo{Kind: impl.AskText, File: "no file"}, impl.Memo{Kind: impl.AskDef}, impl.Memo{Kind: impl.AskFace, File: "A", Name: "\xff", Answer: "\x00"})
		},
	} {
		b := deepBase(someBase(t))
		change(&b)
		if !impl.BaseValid(b) {
			t.Errorf("a base with %s is not valid", name)
		}
	}
}

// TestStrangeMemos has bases with answers to what cannot be asked. They are
// valid, so that only AskBase refuses them.
func TestStrangeMemos(t *testing.T) {
	for _, m := range []impl.Memo{
		{Kind: impl.AskText, File: "C"}, {Kind: impl.AskText}, {Kind: impl.AskType, File: "a", Name: "x"}, {Kind: impl.AskFace, File: "AB"},
		{Kind: impl.AskText, File: "A", Name: "x"}, {Kind: impl.AskUses, File: "A", Name: "A"}, {Kind: impl.AskNames, File: "A", Name: "x"}, {Kind: impl.AskFace, File: "A", Name: " "},
		{Kind: impl.AskDef, File: "A"}, {Kind: impl.AskSig, File: "A", Name: "X"}, {Kind: impl.AskSteps, File: "A", Name: "A.x"}, {Kind: impl.AskType, File: "A", Name: "xy"},
	} {
		b := someBase(t)
		n := len(b.Memos)
		m.Checked, m.Needs = b.Now, []int{0}
		b.Memos = append(b.Memos, m)
		if !impl.BaseValid(b) {
			t.Fatalf("a base with %v is not valid", m)
		}
		for _, q := range []asked{{impl.AskText, "A", ""}, {impl.AskFace, "B", ""}, askedBy(m)} {
			if c, answer := impl.AskBase(b, q.kind, q.file, q.name); answer != "" || !zeroBase(c) {
				t.Errorf("with %v, AskBase = %q", m, answer)
			}
		}
		if at, ok := impl.MemoOf(b, m.Kind, m.File, m.Name); !ok || at != n {
			t.Errorf("MemoOf(%v) = %d, %v", m, at, ok)
		}
		for _, e := range []impl.Edit{{}, {Insert: "x"}} {
			p := plainBase{deepBase(b)}
			c, ok := impl.EditBase(b, "B", e)
			if ok != p.edit("B", e) || !ok {
				t.Errorf("with %v, EditBase = %v", m, ok)
			}
			p.isThis(t, c, "EditBase")
		}
		p := plainBase{deepBase(b)}
		c, ok := impl.CleanBase(b)
		if ok != p.clean() {
			t.Errorf("with %v, CleanBase = %v", m, ok)
		}
		p.isThis(t, c, "CleanBase")
	}
}

func TestMemoOf(t *testing.T) {
	b := someBase(t)
	for _, q := range allAsked(b.Files, "x", "y", "z", "q") {
		want := slices.IndexFunc(b.Memos, func(m impl.Memo) bool { return askedBy(m) == q })
		if at, ok := impl.MemoOf(b, q.kind, q.file, q.name); at != max(want, 0) || ok != (want >= 0) {
			t.Errorf("MemoOf(%v) = %d, %v, not %d", q, at, ok, want)
		}
	}
	for _, q := range []asked{{0, "A", ""}, {impl.AskText, "a", ""}, {impl.AskText, "", ""}, {impl.AskText, "A", "x"}, {impl.AskDef, "A", ""}, {impl.AskDef, "A", "X"}, {9, "A", "x"}, {-1, "A", ""}} {
		if at, ok := impl.MemoOf(b, q.kind, q.file, q.name); ok || at != 0 {
			t.Errorf("MemoOf(%v) = %d, %v", [3]any{q.kind, q.file, q.name}, at, ok)
		}
	}
}

func TestCleanBase(t *testing.T) {
	memo := func(file string, checked int, needs ...int) impl.Memo {
		return impl.Memo{Kind: impl.AskText, File: file, Answer: file, Checked: checked, Needs: needs}
	}
	for _, c := range []struct {
		memos []impl.Memo
		want  []string
	}{
		{nil, []string{}}, {[]impl.Memo{memo("A", 0)}, []string{}}, {[]impl.Memo{memo("A", 2), memo("B", 2, 0)}, []string{}}, {[]impl.Memo{memo("A", 3)}, []string{"A"}},
		{[]impl.Memo{memo("A", 2), memo("B", 3)}, []string{"B"}}, {[]impl.Memo{memo("A", 3), memo("B", 0, 0), memo("C", 3, 0)}, []string{"A", "C 0"}},
		{[]impl.Memo{memo("A", 2), memo("B", 3), memo("C", 3, 1), memo("D", 0, 0, 1), memo("E", 3, 2, 1, 2), memo("F", 3, 4)}, []string{"B", "C 0", "E 1 0 1", "F 2"}},
		{[]impl.Memo{memo("A", 3, 3), memo("B", 2, 3), memo("C", 1), memo("D", 3)}, []string{"A 1", "D"}},
		// One that is kept needs one that is not.
		{[]impl.Memo{memo("A", 2), memo("B", 3, 0)}, nil}, {[]impl.Memo{memo("A", 3), memo("B", 2), memo("C", 3, 0, 1)}, nil}, {[]impl.Memo{memo("A", 3, 2), memo("B", 3), memo("C", 0)}, nil}, {[]impl.Memo{memo("A", 3), memo("B", 2, 0), memo("C", 3, 0), memo("D", 3, 2, 1)}, nil},
	} {
		b := impl.Base{Files: filesOf("A", "x", "B", ""), Edits: []int{2, 3}, Now: 3, Work: 7, Memos: c.memos}
		d, ok := impl.CleanBase(b)
		if ok != (c.want != nil) || !ok && !zeroBase(d) {
			t.Errorf("CleanBase of %v = %v", c.memos, ok)
			continue
		}
		var got []string
		for _, m := range d.Memos {
			text := m.File
			for _, need := range m.Needs {
				text += " " + strconv.Itoa(need)
			}
			got = append(got, text)
		}
		d.Memos = nil
		if !slices.Equal(got, c.want) || ok && !sameBase(d, impl.Base{Files: b.Files, Edits: b.Edits, Now: 3, Work: 7}) {
			t.Errorf("CleanBase of %v has %q, and %s", c.memos, got, baseText(d))
		}
	}
}

// changedText is a text that is near another one: with a line that is added,
// removed, moved, or put in place of another one, or with another byte.
func changedText(r *rand.Rand, text string, others []string) string {
	lines := strings.Split(text, "\n")
	at := r.Intn(len(lines))
	other := others[r.Intn(len(others))]
	switch r.Intn(8) {
	case 0:
		lines = slices.Insert(lines, at, other)
	case 1:
		lines = slices.Delete(lines, at, at+1)
	case 2, 3:
		lines[at] = other
	case 4:
		to := r.Intn(len(lines))
		lines[at], lines[to] = lines[to], lines[at]
	case 5:
		return text
	default:
		if len(text) > 0 {
			i := r.Intn(len(text))
			return text[:i] + string("abcdef1I=+,.(: \n"[r.Intn(16)]) + text[i+1:]
		}
	}
	return textOf(lines...)
}

// linesFor are lines of a few files that randomDefs makes.
func linesFor(r *rand.Rand) []string {
	var lines []string
	for range 3 {
		for _, f := range randomDefs(r) {
			lines = append(lines, strings.Split(f.Text, "\n")...)
		}
	}
	return append(lines, "use A", "use B", "use C", "a = 1", "a : I", "b = a", "-- no")
}

// TestRandomBases edits, asks and cleans, and compares each base with a
// plainBase. It checks promise 7: each answer is what is found anew.
func TestRandomBases(t *testing.T) {
	r := rand.New(rand.NewSource(12))
	found, checked, kept, words := 0, 0, 0, map[string]int{}
	for range 300 {
		b := openBase(t, randomDefs(r))
		others := linesFor(r)
		undo := b.Files
		for range 30 {
			p := plainBase{deepBase(b)}
			file := b.Files[r.Intn(len(b.Files))]
			switch r.Intn(20) {
			case 0, 1, 2, 3, 4, 5:
				text := changedText(r, file.Text, others)
				if at := slices.IndexFunc(undo, func(f impl.File) bool { return f.Name == file.Name }); r.Intn(5) == 0 {
					text = undo[at].Text
				}
				undo = b.Files
				e, _ := impl.DiffEdit(file.Text, text)
				c, ok := impl.EditBase(b, file.Name, e)
				if ok != p.edit(file.Name, e) {
					t.Fatalf("%q: EditBase(%s, %v) = %v", b.Files, file.Name, e, ok)
				}
				if ok {
					p.isThis(t, c, "EditBase")
					b = c
				}
			case 6:
				c, ok := impl.CleanBase(b)
				if !ok || !p.clean() {
					t.Fatalf("%s: CleanBase = %v", baseText(b), ok)
				}
				p.isThis(t, c, "CleanBase")
				kept += len(c.Memos)
				b = c
			default:
				list := allAsked([]impl.File{file}, "a", "b", "c", "d", "f", "w")
				q := list[r.Intn(len(list))]
				if r.Intn(3) == 0 {
					q = asked{impl.AskFace, file.Name, ""}
				}
				c, answer := askBase(t, b, q)
				at := p.update(q)
				if answer != p.Memos[at].Answer || answer != plainAnswer(b.Files, q) {
					t.Fatalf("%q: %v is %q, not %q", b.Files, q, answer, p.Memos[at].Answer)
				}
				p.isThis(t, c, q.String())
				found += c.Work - b.Work
				for i, m := range b.Memos {
					if m.Checked < c.Memos[i].Checked {
						checked++
					}
				}
				if q.kind == impl.AskType {
					word, _, _ := strings.Cut(answer, " ")
					words[word]++
				}
				b = c
			}
		}
	}
	if found < 20000 || checked < 15000 || kept < 3000 {
		t.Errorf("%d answers were found, %d checked again, and %d kept", found, checked, kept)
	}
	for _, word := range []string{"none", "cycle", "word", "block", "large", "type", "I"} {
		if words[word] < 2 {
			t.Errorf("%s is the answer only %d times", word, words[word])
		}
	}
}

// TestNeedsAreEnough checks for remembered answers that with the same answers
// to what they need, nothing is found anew, and that this is all right.
func TestNeedsAreEnough(t *testing.T) {
	r := rand.New(rand.NewSource(13))
	saved := 0
	for range 300 {
		files := randomDefs(r)
		b := openBase(t, files)
		for _, f := range files {
			b, _ = askBase(t, b, asked{impl.AskFace, f.Name, ""})
		}
		file := files[r.Intn(len(files))]
		e, _ := impl.DiffEdit(file.Text, changedText(r, file.Text, linesFor(r)))
		c, ok := impl.EditBase(b, file.Name, e)
		if !ok {
			continue
		}
		for _, f := range files {
			c, _ = askBase(t, c, asked{impl.AskFace, f.Name, ""})
		}
		changed := 0
		for i, m := range c.Memos {
			if i >= len(b.Memos) {
				changed++
				continue
			}
			if m.Checked == c.Now && m.Answer != plainAnswer(c.Files, askedBy(m)) || (m.Answer != b.Memos[i].Answer) != (m.Changed == c.Now) || m.Answer == b.Memos[i].Answer && m.Changed != b.Memos[i].Changed {
				t.Fatalf("%q: after an edit, %v is %q, and changed at %d", c.Files, askedBy(m), m.Answer, m.Changed)
			}
			if m.Answer != b.Memos[i].Answer || slices.ContainsFunc(b.Memos[i].Needs, func(need int) bool { return c.Memos[need].Changed == c.Now }) || m.Kind == impl.AskText && m.File == file.Name {
				changed++
			}
		}
		if work := c.Work - b.Work; work > changed {
			t.Fatalf("%q: after an edit, %d answers were found, and only %d need others", c.Files, work, changed)
		}
		saved += len(c.Memos) - changed
	}
	if saved < 5000 {
		t.Errorf("only %d answers were not found anew", saved)
	}
}

// TestManyAnswers asks all questions about as many names as there are.
func TestManyAnswers(t *testing.T) {
	var names []string
	for c := 'a'; c <= 'z'; c++ {
		names = append(names, string(c))
	}
	for _, last := range []string{"1", "(1 1)", "A.a", "C.q"} {
		files := longWays(last)
		b := openBase(t, files)
		list := allAsked(files, names...)
		slices.Reverse(list)
		for round := range 3 {
			for _, q := range list {
				answer := ""
				if b, answer = impl.AskBase(b, q.kind, q.file, q.name); q.kind >= impl.AskType && answer != plainAnswer(b.Files, q) {
					t.Fatalf("with %s, %v is %q", last, q, answer)
				}
			}
			if !impl.BaseValid(b) || len(b.Memos) != 4*(4+4*26) || b.Work < len(b.Memos) {
				t.Fatalf("with %s, there are %d memos, with the work %d", last, len(b.Memos), b.Work)
			}
			if work := b.Work; round == 0 {
				b, _ = impl.EditBase(b, "B", impl.Edit{Insert: "\n"})
				b, _ = impl.AskBase(b, impl.AskFace, "A", "")
				// The text of B, and what needs nothing else: its uses, its names, their definitions and signatures.
				if b.Work-work != 1+2+2*26 {
					t.Errorf("with %s, an edit causes the work %d", last, b.Work-work)
				}
			}
		}
	}
}

// closed reports whether an element of a list can be reached from itself.
func closed(list [][]int) bool {
	reach := make([][]bool, len(list))
	for i, needs := range list {
		reach[i] = make([]bool, len(list))
		for _, need := range needs {
			reach[i][need] = true
		}
	}
	for k := range list {
		for i := range list {
			for j := range list {
				reach[i][j] = reach[i][j] || reach[i][k] && reach[k][j]
			}
		}
	}
	for i := range list {
		if reach[i][i] {
			return true
		}
	}
	return false
}

// plainValid follows the document word by word.
func plainValid(b impl.Base) bool {
	if !impl.FilesValid(b.Files) || len(b.Edits) != len(b.Files) || b.Work < 0 || len(b.Memos) > impl.MaxMemos {
		return false
	}
	for _, edit := range b.Edits {
		if edit < 0 || edit > b.Now {
			return false
		}
	}
	var list [][]int
	before := map[asked]bool{}
	for _, m := range b.Memos {
		if before[askedBy(m)] || m.Kind < 1 || m.Kind > 8 || m.Changed < 0 || m.Checked < m.Changed || m.Checked > b.Now || len(m.Needs) > impl.MaxMemos {
			return false
		}
		before[askedBy(m)] = true
		if slices.ContainsFunc(m.Needs, func(need int) bool { return need < 0 || need >= len(b.Memos) }) {
			return false
		}
		list = append(list, m.Needs)
	}
	return !closed(list)
}

// spoil changes a base in a way that is valid more often than not.
func spoil(r *rand.Rand, b *impl.Base) {
	answers := []string{"", "A.a\n", "B.a\nA.a\nA.b\n", "a", "a\nb\n", "a = 1", "(", "Q\n", "Q.a", "B\nA\n", "foo.bar\nx\n", "I", "(a>a)", "A.\n.a\n.\n", "\xff", "cycle", "(a,(b,(A.a,B.a)))", strings.Repeat("a ", 100)}
	if len(b.Memos) == 0 {
		return
	}
	at := r.Intn(len(b.Memos))
	m := &b.Memos[at]
	switch r.Intn(12) {
	case 0:
		m.Checked = r.Intn(b.Now+2) - r.Intn(2)
	case 1:
		m.Changed = r.Intn(b.Now+2) - r.Intn(2)
	case 2:
		m.Needs = nil
	case 3:
		m.Needs = append(m.Needs, r.Intn(len(b.Memos)+r.Intn(2))-r.Intn(2))
	case 4:
		slices.Reverse(m.Needs)
	case 5:
		m.Kind, m.Name = r.Intn(10), []string{"", "a", "b", "A"}[r.Intn(4)]
	case 6:
		b.Edits[r.Intn(len(b.Edits))] = r.Intn(b.Now + 1)
	case 7:
		b.Now += r.Intn(3)
	default:
		m.Answer = answers[r.Intn(len(answers))]
	}
}

// TestMadeUpBases has bases of which some are not valid, and others have
// answers that were never found: a question about these ends, too.
func TestMadeUpBases(t *testing.T) {
	r := rand.New(rand.NewSource(14))
	valid, refused, answered := 0, 0, 0
	for range 6000 {
		files := filesOf("A", textOf(linesFor(r)[:4]...), "B", "a = (b,A.b)\nb = a\nuse A")
		b := openBase(t, files)
		for range 3 {
			list := allAsked(files, "a", "b")
			q := list[r.Intn(len(list))]
			b, _ = impl.AskBase(b, q.kind, q.file, q.name)
			if r.Intn(2) == 0 {
				b, _ = impl.EditBase(b, "A", impl.Edit{Insert: "\n"})
			}
		}
		for range r.Intn(6) {
			spoil(r, &b)
		}
		if impl.BaseValid(b) != plainValid(b) {
			t.Fatalf("BaseValid of %s = %v", baseText(b), !plainValid(b))
		}
		before := deepBase(b)
		for _, q := range allAsked(files, "a", "b") {
			c, answer := impl.AskBase(b, q.kind, q.file, q.name)
			d, again := impl.AskBase(b, q.kind, q.file, q.name)
			if answer != again || !sameBase(c, d) || !sameBase(b, before) {
				t.Fatalf("%s: %v is %q, and then %q", baseText(b), q, answer, again)
			}
			if !plainValid(b) && (answer != "" || !zeroBase(c)) {
				t.Fatalf("%s: %v is %q", baseText(b), q, answer)
			}
			if plainValid(b) && !zeroBase(c) {
				answered++
			} else {
				refused++
			}
		}
		if plainValid(b) {
			valid++
		}
		c, ok := impl.CleanBase(b)
		if p := (plainBase{deepBase(b)}); !plainValid(b) && (ok || !zeroBase(c)) || plainValid(b) && (ok != p.clean() || !sameBase(c, p.Base)) {
			t.Fatalf("%s: CleanBase = %v, %s", baseText(b), ok, baseText(c))
		}
	}
	if valid < 2000 || refused < 5000 || answered < 50000 {
		t.Errorf("%d bases are valid, %d questions were refused, and %d answered", valid, refused, answered)
	}
}

// TestEndlessAnswers has bases whose answers say that there is no circle where there is one.
func TestEndlessAnswers(t *testing.T) {
	for _, text := range []string{"x = x", "x = (y,x)\ny = x", "x = y\ny = z\nz = x"} {
		b := openBase(t, filesOf("A", text, "B", "use A\nx = A.x"))
		for _, name := range []string{"x", "y", "z"} {
			b, _ = impl.AskBase(b, impl.AskSteps, "A", name)
			at, _ := impl.MemoOf(b, impl.AskSteps, "A", name)
			b.Memos[at].Answer = ""
		}
		if !impl.BaseValid(b) {
			t.Fatalf("%q: the base is not valid", text)
		}
		for _, q := range []asked{{impl.AskType, "A", "x"}, {impl.AskType, "B", "x"}, {impl.AskFace, "A", ""}, {impl.AskFace, "B", ""}} {
			impl.AskBase(b, q.kind, q.file, q.name)
		}
	}
}

// TestBaseResultsAreNew checks that a change of an argument or of a result is not seen in another one.
func TestBaseResultsAreNew(t *testing.T) {
	spoiled := func(b impl.Base) {
		for i := range b.Files {
			b.Files[i] = impl.File{Name: "Q", Text: "q"}
		}
		for i := range b.Edits {
			b.Edits[i] = 77
		}
		for i, m := range b.Memos {
			for j := range m.Needs {
				m.Needs[j] = 77
			}
			_ = append(m.Needs, 77)
			b.Memos[i] = impl.Memo{Answer: "q"}
		}
		_, _, _ = append(b.Files, impl.File{Name: "Q"}), append(b.Edits, 77), append(b.Memos, impl.Memo{Answer: "q"})
	}
	kept := someBase(t)
	kept, _ = askBase(t, kept, asked{impl.AskFace, "B", ""})
	kept, _ = askBase(t, kept, asked{impl.AskSig, "B", "q"})
	for name, results := range map[string]func(b impl.Base) impl.Base{
		"OpenBase":            func(b impl.Base) impl.Base { c, _ := impl.OpenBase(b.Files); return c },
		"EditBase":            func(b impl.Base) impl.Base { c, _ := impl.EditBase(b, "A", impl.Edit{Insert: "\n"}); return c },
		"EditBase of nothing": func(b impl.Base) impl.Base { c, _ := impl.EditBase(b, "A", impl.Edit{}); return c },
		"AskBase": func(b impl.Base) impl.Base {
			c, _ := impl.AskBase(b, impl.AskType, "B", "q")
			return c
		},
		"AskBase again": func(b impl.Base) impl.Base {
			c, _ := impl.AskBase(b, impl.AskFace, "B", "")
			return c
		},
		"CleanBase": func(b impl.Base) impl.Base { c, _ := impl.CleanBase(b); return c },
	} {
		for _, spare := range []int{0, 8} {
			b := deepBase(kept)
			b.Files, b.Edits, b.Memos = slices.Grow(b.Files, spare), slices.Grow(b.Edits, spare), slices.Grow(b.Memos, spare)
			for i := range b.Memos {
				b.Memos[i].Needs = slices.Grow(b.Memos[i].Needs, spare)
			}
			want := deepBase(results(deepBase(kept)))
			first, second := results(b), results(b)
			if zeroBase(want) || !sameBase(first, want) || !sameBase(second, want) || !sameBase(b, kept) {
				t.Fatalf("%s yields %s", name, baseText(first))
			}
			if slices.ContainsFunc(b.Memos[:cap(b.Memos)][len(b.Memos):], func(m impl.Memo) bool { return m.Kind != 0 }) {
				t.Errorf("%s changes memory behind its argument", name)
			}
			spoiled(first)
			if !sameBase(second, want) || !sameBase(b, kept) {
				t.Errorf("%s: a change of a result is seen in another one, or in the argument", name)
			}
			spoiled(b)
			if !sameBase(second, want) {
				t.Errorf("%s: a change of the argument is seen in the result", name)
			}
		}
	}
	// Within one result: the Needs of two memos, with what is behind them.
	for _, b := range []impl.Base{kept, deepBase(kept)} {
		c, _ := impl.AskBase(b, impl.AskType, "A", "q")
		want := deepBase(c)
		for i := range c.Memos {
			_ = append(c.Memos[i].Needs, 77)
		}
		if !sameBase(c, want) {
			t.Error("the Needs of two memos share memory")
		}
	}
}
