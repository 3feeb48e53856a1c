package tests

import (
	"math/rand"
	"slices"
	"strconv"
	"strings"
	"testing"

	"loop.example/livetyper/impl"
)

// textOf joins lines, without a newline behind the last one.
func textOf(lines ...string) string {
	return strings.Join(lines, "\n")
}

// filesOf is a list of names of files, each followed by its text.
func filesOf(texts ...string) []impl.File {
	var files []impl.File
	for i := 0; i < len(texts); i += 2 {
		files = append(files, impl.File{Name: texts[i], Text: texts[i+1]})
	}
	return files
}

// faultTexts writes each fault as the script of the last chapter would.
func faultTexts(faults []impl.Fault) []string {
	kinds := map[int]string{impl.FaultBad: "bad", impl.FaultTwice: "twice", impl.FaultUse: "use", impl.FaultSig: "sig", impl.FaultName: "name", impl.FaultType: "type", impl.FaultLarge: "large", impl.FaultCycle: "cycle"}
	var list []string
	for _, f := range faults {
		list = append(list, strings.TrimSpace(f.File+" "+strconv.Itoa(f.Line)+" "+kinds[f.Kind]+" "+f.Name))
	}
	return list
}

// spareLines is a text of this number of lines, of which the last one is x = 1.
func spareLines(count int) string {
	return strings.Repeat("-- a line\n", count-1) + "x = 1"
}

// badFileTexts are no texts of files, and have lines that would be found otherwise.
func badFileTexts() []string {
	begin := "x = 1\nx : I\nuse B\nuse A\ny : I\n"
	many := strings.Repeat("\n", impl.MaxFileLine)
	wide := begin + "--" + strings.Repeat("-", impl.MaxText)
	return []string{
		begin + "\t", begin + "\r\n", begin + "-- \x00", begin + "-- \x7f", begin + "-- \xc3\xa9", begin + "-- \xff", "\xef\xbb\xbf" + begin,
		begin + many, many + "x = 1", many, strings.Repeat("x = 1\n", impl.MaxFileLine), spareLines(impl.MaxFileLine + 1),
		longest, strings.Repeat("\n", impl.MaxText), longest + "x", wide, wide[:impl.MaxText+1],
	}
}

// goodFileTexts are texts of files, at the limits too.
func goodFileTexts() []string {
	wide := "x = 1\n--" + strings.Repeat("-", impl.MaxText)
	return []string{
		"", "\n", "x = 1", "x = 1\n", "\nx = 1", "(", "x = (1+)\nX", "use A\nuse A",
		strings.Repeat("\n", impl.MaxFileLine-1), strings.Repeat("x = 1\n", impl.MaxFileLine-1), spareLines(impl.MaxFileLine), wide[:impl.MaxText],
	}
}

func badFileNames() []string {
	return []string{"", "a", "z", "AB", "A ", " A", " ", "1", "@", "[", "A.x", "A.", "\x00", "\xc9", "É", "A\n"}
}

// badFileLists are lists of files that are not valid; each has a file A with a fault in its line 0.
func badFileLists() [][]impl.File {
	lists := [][]impl.File{
		filesOf("A", "(", "A", "("), filesOf("A", "(", "B", "", "A", ""), filesOf("B", "", "A", "(", "B", ""),
		filesOf("A", "(", "B", "", "C", "", "D", "", "E", ""), filesOf("A", "(", "B", "", "C", "", "D", "", "D", ""),
		slices.Repeat(filesOf("A", "("), 100000),
	}
	for _, bad := range badFileTexts() {
		lists = append(lists, filesOf("A", "(", "B", bad), filesOf("B", bad, "A", "("), filesOf("A", "(\n"+bad))
	}
	for _, bad := range badFileNames() {
		lists = append(lists, filesOf("A", "(", bad, ""), filesOf(bad, "", "A", "("))
	}
	return lists
}

func TestFileConstants(t *testing.T) {
	kinds := []int{impl.FaultBad, impl.FaultTwice, impl.FaultUse, impl.FaultSig, impl.MaxFiles, impl.MaxFileLine}
	if !slices.Equal(kinds, []int{1, 2, 3, 4, 4, 40}) {
		t.Errorf("the constants are %v", kinds)
	}
}

func TestFilesValid(t *testing.T) {
	lists := [][]impl.File{nil, {}, filesOf("A", ""), filesOf("Z", "x = 1"), filesOf("B", "", "A", ""), filesOf("A", "(", "B", "(", "C", "(", "D", "(")}
	for c := 'A'; c <= 'Z'; c++ {
		lists = append(lists, filesOf(string(c), "use A"))
	}
	for _, good := range goodFileTexts() {
		lists = append(lists, filesOf("A", good), filesOf("D", good, "C", good, "B", good, "A", good))
	}
	for i, files := range lists {
		if !impl.FilesValid(files) {
			t.Errorf("list %d: FilesValid = false", i)
		}
	}
	for i, files := range badFileLists() {
		if impl.FilesValid(files) {
			t.Errorf("bad list %d: FilesValid = true", i)
		}
	}
}

func TestFindFile(t *testing.T) {
	files := filesOf("C", "x = 1", "A", "", "B", "(")
	for _, f := range files {
		if text, ok := impl.FindFile(files, f.Name); !ok || text != f.Text {
			t.Errorf("FindFile(%s) = %q, %v", f.Name, text, ok)
		}
	}
	for _, good := range goodFileTexts() {
		if text, ok := impl.FindFile(filesOf("B", "y", "A", good), "A"); !ok || text != good {
			t.Errorf("FindFile = %.20q, %v, not %.20q", text, ok, good)
		}
	}
	for _, name := range append(badFileNames(), "D", "Z", "x") {
		if text, ok := impl.FindFile(files, name); ok || text != "" {
			t.Errorf("FindFile(%q) = %q, %v", name, text, ok)
		}
		if text, ok := impl.FindFile(nil, name); ok || text != "" {
			t.Errorf("FindFile(%q) without files = %q, %v", name, text, ok)
		}
	}
}

// TestBadFileLists checks that in files that are not valid, nothing is found.
func TestBadFileLists(t *testing.T) {
	for i, files := range badFileLists() {
		for _, f := range append(files[:min(len(files), 10):min(len(files), 10)], impl.File{Name: "A"}) {
			if text, ok := impl.FindFile(files, f.Name); ok || text != "" {
				t.Errorf("list %d: FindFile(%q) = %.20q, %v", i, f.Name, text, ok)
			}
			if faults := impl.LineFaults(files, f.Name); len(faults) != 0 {
				t.Errorf("list %d: LineFaults(%q) = %.100v", i, f.Name, faults)
			}
		}
	}
}

// TestBadFileTexts checks that what is no text of a file has no lines.
func TestBadFileTexts(t *testing.T) {
	for i, bad := range badFileTexts() {
		if lines := impl.ParseFile(bad); len(lines) != 0 {
			t.Errorf("text %d: ParseFile has %d lines", i, len(lines))
		}
		for _, name := range []string{"x", "y", "", "B"} {
			if n, ok := impl.DefLine(bad, name); ok || n != 0 {
				t.Errorf("text %d: DefLine(%s) = %d, %v", i, name, n, ok)
			}
			if x, ok := impl.SigOf(bad, name); ok || !zeroType(x) {
				t.Errorf("text %d: SigOf(%s) = %v, %v", i, name, x, ok)
			}
		}
		if uses, names := impl.UsesOf(bad), impl.NamesOf(bad); len(uses) != 0 || len(names) != 0 {
			t.Errorf("text %d: UsesOf = %v, and NamesOf = %v", i, uses, names)
		}
	}
}

func TestParseFile(t *testing.T) {
	for _, text := range append(goodFileTexts(), "use B\nx = (1+2)\nx : (b>I)\n-- x\n\nx = (1+)\ny") {
		lines := strings.Split(text, "\n")
		got := impl.ParseFile(text)
		if len(got) != len(lines) {
			t.Fatalf("ParseFile(%.30q) has %d lines, not %d", text, len(got), len(lines))
		}
		for i, line := range lines {
			if !impl.LineSame(got[i], impl.ParseLine(line)) {
				t.Errorf("ParseFile(%.30q) has %v as line %d", text, got[i], i)
			}
		}
	}
	// As numbers, so that ParseLine is not its own measure.
	got := impl.ParseFile("use B\nx = 7\ny : b\n-- x\n\nx = (1+)\n")
	kinds := []int{impl.LineUse, impl.LineDef, impl.LineSig, impl.LineComment, impl.LineEmpty, impl.LineBad, impl.LineEmpty}
	if len(got) != len(kinds) || !slices.EqualFunc(got, kinds, func(l impl.Line, kind int) bool { return l.Kind == kind }) {
		t.Fatalf("ParseFile = %v", got)
	}
	if got[0].Name != "B" || got[1].Name != "x" || got[1].Expr.N != 7 || got[2].Name != "y" || got[2].Type.N != 1 || got[5].Col != 7 {
		t.Errorf("ParseFile = %v", got)
	}
}

func TestDefLine(t *testing.T) {
	cases := []struct {
		text, name string
		want       int
	}{
		{"", "x", -1}, {"\n", "x", -1}, {"x = 1", "x", 0}, {"x = 1\n", "x", 0}, {"\n\nx = 1", "x", 2}, {"x = 1", "y", -1},
		{"x = 1\nx = 2", "x", 0}, {"y = 1\nx = 2\ny = 3\nx = 4\nx = 5", "x", 1}, {"x = 1\nx = 1", "x", 0}, {"y = x\nx = 1", "x", 1},
		// A line of another kind with this name defines nothing.
		{"x : I", "x", -1}, {"x : I\nx = 1", "x", 1}, {"-- x = 1\nx = 2", "x", 1}, {"x = (1+)\nx = 2", "x", 1}, {"x = 1 \nx = 2", "x", 1}, {" x = 1", "x", -1},
		{"x = 100\nx = 01\nx =1\nx", "x", -1}, {"use X\nu = 1", "u", 1}, {"y = {x=1;x}", "x", -1}, {"y = \\x.x", "x", -1},
		{"use A", "A", -1}, {"x = 1", "", -1}, {"(", "", -1}, {"x = 1", "X", -1}, {"x = 1", "x ", -1}, {"x = 1", "x = 1", -1}, {"x = A.y", "A.y", -1}, {"x = 1", "A.x", -1}, {"x = 1", "\xff", -1},
		// Whether the definition has a type does not matter.
		{"x = (1 1)\nx = 2", "x", 0}, {"x = x\nx = 2", "x", 0}, {"x = B.q\nx = 2", "x", 0},
		{spareLines(impl.MaxFileLine), "x", impl.MaxFileLine - 1}, {"x = 1" + strings.Repeat("\n", impl.MaxFileLine-1), "x", 0},
	}
	for _, c := range cases {
		if n, ok := impl.DefLine(c.text, c.name); ok != (c.want >= 0) || n != max(c.want, 0) {
			t.Errorf("DefLine(%q, %q) = %d, %v", c.text, c.name, n, ok)
		}
	}
}

func TestSigOf(t *testing.T) {
	var last []impl.Type
	for n := range impl.MaxVar + 1 {
		last = append(last, variable(impl.MaxVar-n))
	}
	reversed, ok := impl.SubstVars(manyVars(0, impl.MaxVar+1), last)
	if !ok {
		t.Fatal("a type with all variables is missing")
	}
	cases := []struct{ text, name, want string }{
		{"", "x", ""}, {"x : I", "x", "I"}, {"x : I", "y", ""}, {"x : I\n", "x", "I"}, {"\n\ny : a\nx : I", "x", "I"},
		// Before and behind the definition, or without one.
		{"x : I\nx = 1", "x", "I"}, {"x = 1\nx : I", "x", "I"}, {"x = 1\nx = 2\n\nx : (I*I)", "x", "(I*I)"}, {"x = \\y.y\nx : I", "x", "I"},
		// The first of two.
		{"x : I\nx : (I*I)", "x", "I"}, {"x : (b>a)\nx = 1\nx : I\nx : a", "x", "(a>b)"}, {"y : I\nx : a\ny : a\nx : I", "y", "I"}, {"y : I\nx : a\ny : a\nx : I", "x", "a"},
		// The variables are numbered anew.
		{"x : z", "x", "a"}, {"x : (z>(y*z))", "x", "(a>(b*a))"}, {"x : (b>a)", "x", "(a>b)"}, {"x : ((c*a)>(a*(b>I)))", "x", "((a*b)>(b*(c>I)))"},
		{"x : " + rawText(reversed), "x", rawText(manyVars(0, impl.MaxVar+1))},
		// A line of another kind with this name is no signature.
		{"x = 1", "x", ""}, {"-- x : I\nx : a", "x", "a"}, {"x : \nx : a", "x", "a"}, {"x : I \nx : a", "x", "a"}, {"x:I\nx : a", "x", "a"}, {"x : A\nx : (I)\n", "x", ""},
		{"use A", "A", ""}, {"x : I", "", ""}, {"(", "", ""}, {"x : I", "X", ""}, {"x : I", "x ", ""}, {"x : I", "A.x", ""}, {"x : I", "\xff", ""},
		{"x : " + rawText(full(6, number)), "x", rawText(full(6, number))}, {"x : " + rawText(pair(full(6, number), number)) + "\nx : I", "x", "I"},
		{"x : " + rawText(chain(impl.MaxTypeDepth)), "x", rawText(chain(impl.MaxTypeDepth))}, {"x : " + rawText(chain(impl.MaxTypeDepth+1)) + "\nx : I", "x", "I"},
		{strings.Repeat("\n", impl.MaxFileLine-1) + "x : c", "x", "a"},
	}
	for _, c := range cases {
		x, ok := impl.SigOf(c.text, c.name)
		if ok != (c.want != "") || ok && rawText(x) != c.want || !ok && !zeroType(x) {
			t.Errorf("SigOf(%q, %q) = %s, %v", c.text, c.name, impl.FormatType(x), ok)
		}
	}
}

func TestUsesAndNames(t *testing.T) {
	cases := []struct {
		text        string
		uses, names []string
	}{
		{"", nil, nil}, {"\n", nil, nil}, {"-- use A\n(\nx : I\nuse a\nuse\nx =", nil, nil},
		{"use A", []string{"A"}, nil}, {"x = 1", nil, []string{"x"}}, {"x = 1\nuse A\n", []string{"A"}, []string{"x"}},
		{"use B\nuse A\nuse Z", []string{"B", "A", "Z"}, nil}, {"y = 1\nx = 2\nz = 3", nil, []string{"y", "x", "z"}},
		// Each once, where it is first.
		{"use B\nuse B", []string{"B"}, nil}, {"use B\nuse A\nuse B\nuse C\nuse A", []string{"B", "A", "C"}, nil},
		{"x = 1\nx = 1", nil, []string{"x"}}, {"y = 1\nx = 2\ny = 3\nz = 4\nx = 5", nil, []string{"y", "x", "z"}},
		// A name that is used, bound or signed only is not defined, and a file in front of a name is not used.
		{"x = B.y", nil, []string{"x"}}, {"x = {y=1;\\z.(y+z)}\nw : I", nil, []string{"x"}}, {"w : I\nx = 1\nw = 2", nil, []string{"x", "w"}},
		{"use A \nuse A\nus = 1\nu = 1\nuse AB\nuse 1", []string{"A"}, []string{"u"}}, {"x = 1 \nx = 100\nX = 1", nil, nil},
	}
	letters := strings.Split("zyxwvutsrqponmlkjihgfedcba", "")
	cases = append(cases, struct {
		text        string
		uses, names []string
	}{strings.Join(letters, " = 1\n") + " = 1", nil, letters})
	for _, c := range cases {
		if uses := impl.UsesOf(c.text); !slices.Equal(uses, c.uses) {
			t.Errorf("UsesOf(%q) = %v", c.text, uses)
		}
		if names := impl.NamesOf(c.text); !slices.Equal(names, c.names) {
			t.Errorf("NamesOf(%q) = %v", c.text, names)
		}
	}
}

func TestLineFaults(t *testing.T) {
	cases := []struct {
		text string
		want []string
	}{
		{"", nil}, {"\n", nil}, {"-- (\n\n", nil}, {"x = 1\nx : I\nuse B\n", nil},
		{"(", []string{"A 0 bad"}}, {"x = (1+)", []string{"A 0 bad"}}, {"x = 1\nx : A", []string{"A 1 bad"}}, {"x = 1 ", []string{"A 0 bad"}}, {"use b", []string{"A 0 bad"}},
		{"(\n(", []string{"A 0 bad", "A 1 bad"}}, {"x = \nx = 1\nx = \n", []string{"A 0 bad", "A 2 bad"}},

		{"x = 1\nx = 2", []string{"A 1 twice x"}}, {"x = 1\nx = 1\ny = 1\nx = 1", []string{"A 1 twice x", "A 3 twice x"}}, {"x = 1\ny = x\ny = 2\nx = y", []string{"A 2 twice y", "A 3 twice x"}},
		{"x = 1\nx : I", nil}, {"x : I\nx = 1", nil}, {"x : I\nx = 1\nx : I", []string{"A 2 twice x"}}, {"x = 1\nx : I\nx : a", []string{"A 2 twice x"}}, {"x : I\nx : a\nx = 1", []string{"A 1 twice x"}},
		{"x : I\nx = 1\nx = 2\nx : I", []string{"A 2 twice x", "A 3 twice x"}}, {"-- x = 1\nx = 1\nx = ", []string{"A 2 bad"}},

		{"use A", []string{"A 0 use A"}}, {"use C", []string{"A 0 use C"}}, {"use B", nil}, {"use B\nuse A\nuse C\nuse Z", []string{"A 1 use A", "A 2 use C", "A 3 use Z"}},
		// A file that is used twice is no fault, unless each of the lines is one.
		{"use B\nuse B\nuse B", nil}, {"use A\nuse A", []string{"A 0 use A", "A 1 use A"}}, {"use C\nuse B\nuse C", []string{"A 0 use C", "A 2 use C"}},
		// What a file defines does not matter to those that use it.
		{"use B\nx = B.q", nil}, {"x = B.x", nil}, {"x = C.x\ny = z", nil}, {"b = 1", nil},

		{"x : I", []string{"A 0 sig x"}}, {"y = 1\nx : I\nz : I", []string{"A 1 sig x", "A 2 sig z"}}, {"x : I\nx : I", []string{"A 0 sig x", "A 1 twice x"}}, {"x : I\nx : I\nx : a", []string{"A 0 sig x", "A 1 twice x", "A 2 twice x"}},
		{"x : I\nx = ", []string{"A 0 sig x", "A 1 bad"}}, {"x : I\n-- x = 1", []string{"A 0 sig x"}}, {"b : I\nuse B", []string{"A 0 sig b"}}, {"x : I\ny = {x=1;x}", []string{"A 0 sig x"}},
		{"x : I\ny = x\n\n\nx = 1", nil}, {"x = 1\n\n\nx : (I>I)", nil},

		// Types do not matter.
		{"x = (1 1)\ny = x\nz = z\nw = q", nil}, {"x : (I*I)\nx = 1", nil},

		// The order of the lines, not that of the kinds or names.
		{"z : I\nuse C\nb = 1\n(\nb = 2\na : I\nuse A\na : I\n", []string{"A 0 sig z", "A 1 use C", "A 3 bad", "A 4 twice b", "A 5 sig a", "A 6 use A", "A 7 twice a"}},
		{spareLines(impl.MaxFileLine-1) + "\nx = 2", []string{"A 39 twice x"}}, {strings.Repeat("\n", impl.MaxFileLine-1) + "(", []string{"A 39 bad"}}, {"x : I\n" + spareLines(impl.MaxFileLine-1), nil},
	}
	for _, c := range cases {
		for _, files := range [][]impl.File{filesOf("A", c.text, "B", "b = 1\nx = 2\nx : I"), filesOf("B", "(\n(\nuse A", "A", c.text)} {
			if got := faultTexts(impl.LineFaults(files, "A")); !slices.Equal(got, c.want) {
				t.Errorf("LineFaults of %q = %q", c.text, got)
			}
		}
	}
}

// TestLineFaultsOfFiles has files that use each other, and ones that do not exist.
func TestLineFaultsOfFiles(t *testing.T) {
	files := filesOf("D", "use A\nuse D\nx = 1", "A", "use D\nuse B\nx = 1\nx = 2", "Z", "", "C", "use Z\nuse B\nx : I")
	cases := map[string][]string{
		"D": {"D 1 use D"}, "A": {"A 1 use B", "A 3 twice x"}, "Z": nil, "C": {"C 1 use B", "C 2 sig x"},
		"B": nil, "": nil, "a": nil, "AD": nil, "A ": nil, "\xff": nil,
	}
	for name, want := range cases {
		if got := faultTexts(impl.LineFaults(files, name)); !slices.Equal(got, want) {
			t.Errorf("LineFaults(%q) = %q", name, got)
		}
		if got := impl.LineFaults(nil, name); len(got) != 0 {
			t.Errorf("LineFaults(%q) without files = %v", name, got)
		}
	}
	// The same file, when the other ones come and go.
	text := "use B\nuse C\nuse A"
	for _, c := range []struct {
		others []impl.File
		want   []string
	}{
		{nil, []string{"A 0 use B", "A 1 use C", "A 2 use A"}}, {filesOf("B", ""), []string{"A 1 use C", "A 2 use A"}},
		{filesOf("C", "("), []string{"A 0 use B", "A 2 use A"}}, {filesOf("C", "use A", "D", "", "B", ""), []string{"A 2 use A"}},
	} {
		if got := faultTexts(impl.LineFaults(append(filesOf("A", text), c.others...), "A")); !slices.Equal(got, c.want) {
			t.Errorf("LineFaults with %v = %q", c.others, got)
		}
	}
}

// knownLine is a line of which is known by hand what it is.
type knownLine struct {
	text string
	kind int
	name string
	sig  string
}

func knownLines() []knownLine {
	return []knownLine{
		{"", impl.LineEmpty, "", ""}, {"-- x = 1", impl.LineComment, "", ""},
		{"use A", impl.LineUse, "A", ""}, {"use B", impl.LineUse, "B", ""}, {"use C", impl.LineUse, "C", ""},
		{"x = 1", impl.LineDef, "x", ""}, {"x = (y 1)", impl.LineDef, "x", ""}, {"y = 1", impl.LineDef, "y", ""},
		{"x : I", impl.LineSig, "x", "I"}, {"x : (c>b)", impl.LineSig, "x", "(a>b)"}, {"y : b", impl.LineSig, "y", "a"},
		{"x = ", impl.LineBad, "", ""}, {"(", impl.LineBad, "", ""},
	}
}

// plainFile says of known lines what the functions of the chapter say of their text.
type plainFile []knownLine

func (p plainFile) text() string {
	var lines []string
	for _, l := range p {
		lines = append(lines, l.text)
	}
	return textOf(lines...)
}

// first returns the index of the first line of a kind with a name, or -1.
func (p plainFile) first(kind int, name string) int {
	return slices.IndexFunc(p, func(l knownLine) bool { return l.kind == kind && l.name == name })
}

// firsts returns the names of those lines of a kind that are the first ones with their names.
func (p plainFile) firsts(kind int) []string {
	var names []string
	for i, l := range p {
		if l.kind == kind && p.first(kind, l.name) == i {
			names = append(names, l.name)
		}
	}
	return names
}

func (p plainFile) faults(file string, existing string) []impl.Fault {
	var list []impl.Fault
	for i, l := range p {
		kind := 0
		switch {
		case l.kind == impl.LineBad:
			kind = impl.FaultBad
		case l.kind == impl.LineUse && (l.name == file || !strings.Contains(existing, l.name)):
			kind = impl.FaultUse
		case (l.kind == impl.LineDef || l.kind == impl.LineSig) && p.first(l.kind, l.name) < i:
			kind = impl.FaultTwice
		case l.kind == impl.LineSig && p.first(impl.LineDef, l.name) < 0:
			kind = impl.FaultSig
		}
		if kind != 0 {
			list = append(list, impl.Fault{File: file, Line: i, Kind: kind, Name: l.name})
		}
	}
	return list
}

// checkNames compares the functions that look for one name.
func (p plainFile) checkNames(t *testing.T, names ...string) {
	t.Helper()
	text := p.text()
	for _, name := range names {
		want := p.first(impl.LineDef, name)
		if n, ok := impl.DefLine(text, name); ok != (want >= 0) || n != max(want, 0) {
			t.Errorf("DefLine(%q, %q) = %d, %v", text, name, n, ok)
		}
		sig := ""
		if at := p.first(impl.LineSig, name); at >= 0 {
			sig = p[at].sig
		}
		if x, ok := impl.SigOf(text, name); ok != (sig != "") || impl.FormatType(x) != sig || !ok && !zeroType(x) {
			t.Errorf("SigOf(%q, %q) = %v, %v", text, name, x, ok)
		}
	}
}

// check compares all functions, for a file of this name.
func (p plainFile) check(t *testing.T, files []impl.File, file string, existing string) {
	t.Helper()
	text := p.text()
	lines := impl.ParseFile(text)
	if !slices.EqualFunc(lines, p, func(l impl.Line, known knownLine) bool { return l.Kind == known.kind && l.Name == known.name }) {
		t.Errorf("ParseFile(%q) = %v", text, lines)
	}
	if uses, want := impl.UsesOf(text), p.firsts(impl.LineUse); !slices.Equal(uses, want) {
		t.Errorf("UsesOf(%q) = %v", text, uses)
	}
	if names, want := impl.NamesOf(text), p.firsts(impl.LineDef); !slices.Equal(names, want) {
		t.Errorf("NamesOf(%q) = %v", text, names)
	}
	if faults, want := impl.LineFaults(files, file), p.faults(file, existing); !slices.Equal(faults, want) {
		t.Errorf("LineFaults of %q = %v, not %v", text, faults, want)
	}
}

// TestAllSmallFiles compares all texts of at most four known lines with plain answers.
func TestAllSmallFiles(t *testing.T) {
	all := []plainFile{nil}
	for begin, length := 0, 0; length < 4; length++ {
		end := len(all)
		for _, p := range all[begin:end] {
			for _, l := range knownLines() {
				all = append(all, append(slices.Clip(p), l))
			}
		}
		begin = end
	}
	for _, p := range all[1:] {
		p.checkNames(t, "x", "y", "z", "", "A")
		p.check(t, filesOf("A", p.text(), "B", "y = 1\nz = 2"), "A", "AB")
		if t.Failed() {
			return
		}
	}
}

// randomFile has lines with any names, with expressions and types that may be too large.
func randomFile(r *rand.Rand, lines int) plainFile {
	var p plainFile
	for range lines {
		name := string(rune('a' + r.Intn(1+r.Intn(26))))
		file := string(rune('A' + r.Intn(5)))
		x := smallType(r, 3)
		canon, _ := impl.CanonType(x)
		p = append(p, []knownLine{
			{name + " = " + rawExpr(randomExpr(r, 3)), impl.LineDef, name, ""},
			{name + " = " + rawExpr(randomExpr(r, 3)) + ")", impl.LineBad, "", ""},
			{name + " : " + rawText(x), impl.LineSig, name, rawText(canon)},
			{"use " + file, impl.LineUse, file, ""},
			{"-- " + name + " = 1", impl.LineComment, "", ""},
			{"", impl.LineEmpty, "", ""},
		}[r.Intn(6)])
	}
	return p
}

// TestRandomFiles compares lists of up to MaxFiles files of up to MaxFileLine lines with plain answers.
func TestRandomFiles(t *testing.T) {
	r := rand.New(rand.NewSource(5))
	refused := 0
	for range 2000 {
		names := []string{"A", "B", "C", "D", "E"}
		r.Shuffle(len(names), func(i, j int) { names[i], names[j] = names[j], names[i] })
		names = names[:1+r.Intn(impl.MaxFiles)]
		var plain []plainFile
		var files []impl.File
		valid := true
		for _, name := range names {
			p := randomFile(r, 1+r.Intn(impl.MaxFileLine))
			plain = append(plain, p)
			files = append(files, impl.File{Name: name, Text: p.text()})
			valid = valid && len(p.text()) <= impl.MaxText
		}
		if impl.FilesValid(files) != valid {
			t.Fatalf("FilesValid(%q) = %v", files, !valid)
		}
		if !valid {
			refused++
			continue
		}
		for i, p := range plain {
			p.checkNames(t, "a", "b", "e", "z", "")
			p.check(t, files, names[i], strings.Join(names, ""))
		}
	}
	if refused > 500 {
		t.Errorf("%d of the lists are not valid", refused)
	}
}

// TestFirstLineDefines checks promise 5: what is behind the first line with a
// name changes nothing of it, and what is in front only if it has the name.
func TestFirstLineDefines(t *testing.T) {
	r := rand.New(rand.NewSource(6))
	for range 3000 {
		p := randomFile(r, 1+r.Intn(8))
		for _, name := range impl.NamesOf(p.text()) {
			at, ok := impl.DefLine(p.text(), name)
			if !ok || p[at].kind != impl.LineDef || p[at].name != name {
				t.Fatalf("DefLine(%q, %s) = %d, %v", p.text(), name, at, ok)
			}
			more := randomFile(r, 3)
			behind := append(slices.Clip(p[:at+1]), more...).text()
			if n, ok := impl.DefLine(behind, name); !ok || n != at {
				t.Errorf("DefLine(%q, %s) = %d, %v, not %d", behind, name, n, ok, at)
			}
			before := append(slices.Clip(more), p...)
			want := at + len(more)
			if n := more.first(impl.LineDef, name); n >= 0 {
				want = n
			}
			if n, ok := impl.DefLine(before.text(), name); !ok || n != want {
				t.Errorf("DefLine(%q, %s) = %d, %v, not %d", before.text(), name, n, ok, want)
			}
			without := append(slices.Clip(p[:at]), knownLine{}).text()
			if n, ok := impl.DefLine(without, name); ok || slices.Contains(impl.NamesOf(without), name) {
				t.Errorf("%s is still defined in %q: %d", name, without, n)
			}
		}
	}
}

// TestDefinitionsAreFirstOrTwice checks that a line of a definition either defines its name or is a FaultTwice.
func TestDefinitionsAreFirstOrTwice(t *testing.T) {
	r := rand.New(rand.NewSource(7))
	twice := 0
	for range 3000 {
		p := randomFile(r, 1+r.Intn(impl.MaxFileLine))
		files := filesOf("A", p.text())
		if !impl.FilesValid(files) {
			continue
		}
		isTwice := map[int]bool{}
		for _, f := range impl.LineFaults(files, "A") {
			isTwice[f.Line] = f.Kind == impl.FaultTwice
		}
		for i, l := range p {
			if l.kind != impl.LineDef {
				continue
			}
			if n, ok := impl.DefLine(p.text(), l.name); !ok || (n == i) == isTwice[i] {
				t.Errorf("line %d of %q: DefLine = %d, %v", i, p.text(), n, ok)
			}
			if isTwice[i] {
				twice++
			}
		}
	}
	if twice < 500 {
		t.Errorf("only %d definitions are there twice", twice)
	}
}

// TestFileResultsAreNew checks that a change of a result is not seen in another one.
func TestFileResultsAreNew(t *testing.T) {
	text := "use B\nuse C\nx = {x=?<1,1,1>;(?<1,1,1> (x+x))}\ny = 2\nx = 3\nx : ((a>b)*(a>b))"
	files := filesOf("A", text)
	exprs, types := map[*impl.Expr]int{}, map[*impl.Type]int{}
	for range 2 {
		x, ok := impl.SigOf(text, "x")
		lines := impl.ParseFile(text)
		uses, names, faults := impl.UsesOf(text), impl.NamesOf(text), impl.LineFaults(files, "A")
		if !ok || len(lines) != 6 || !slices.Equal(uses, []string{"B", "C"}) || !slices.Equal(names, []string{"x", "y"}) || len(faults) != 3 || faults[0].Name != "B" {
			t.Fatalf("the results are %v, %v, %v, %v and %v", x, lines, uses, names, faults)
		}
		addMemory(types, x)
		for i, l := range lines {
			addMemory(types, l.Type)
			addExprMemory(exprs, l.Expr)
			if i > 1 && l.Kind == 0 {
				t.Fatalf("line %d was changed", i)
			}
		}
		clear(lines)
		uses[0], names[0], faults[0] = "Q", "q", impl.Fault{}
		_, _, _ = append(uses[:1], "Q"), append(names[:1], "q"), append(faults[:1], impl.Fault{})
	}
	for at, n := range exprs {
		if n != 1 {
			t.Errorf("%v is reached %d times", *at, n)
		}
	}
	for at, n := range types {
		if n != 1 {
			t.Errorf("%v is reached %d times", *at, n)
		}
	}
}

// TestFilesAreKept checks that no function changes its arguments, or memory behind them.
func TestFilesAreKept(t *testing.T) {
	longer := filesOf("C", "use A\nx = 1", "A", "use C\nx = 1\nx = 2", "B", "(", "D", "y = 1")
	before := slices.Clone(longer)
	files := longer[:3]
	for _, name := range []string{"A", "B", "C", "D", "x"} {
		impl.FilesValid(files)
		impl.FindFile(files, name)
		impl.LineFaults(files, name)
	}
	if !slices.Equal(longer, before) {
		t.Errorf("the files became %v", longer)
	}
	if _, ok := impl.FindFile(files, "D"); ok {
		t.Error("a file behind the list is found")
	}
}
