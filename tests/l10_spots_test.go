package tests

import (
	"math"
	"math/rand"
	"slices"
	"strconv"
	"strings"
	"testing"

	"loop.example/livetyper/impl"
)

// spotText writes a spot: At, the role and Name, and Bound, unless it is -1.
func spotText(s impl.Spot) string {
	if s == (impl.Spot{}) {
		return ""
	}
	roles := map[int]string{impl.RoleDef: "def", impl.RoleSig: "sig", impl.RoleUse: "use", impl.RoleBinder: "binder", impl.RoleLocal: "local"}
	text := strconv.Itoa(s.At) + " " + roles[s.Role] + " " + s.Name
	if s.Bound != -1 {
		text += " " + strconv.Itoa(s.Bound)
	}
	return text
}

// spotTexts joins spots by a comma and a space.
func spotTexts(spots []impl.Spot) string {
	return joined(spots, spotText, ", ")
}

// joined joins the texts of the elements of a list.
func joined[T any](list []T, text func(T) string, between string) string {
	var texts []string
	for _, x := range list {
		texts = append(texts, text(x))
	}
	return strings.Join(texts, between)
}

// unmarked returns files without the marks @ and #, which no line that can be
// read has, and the places in front of which they stand.
func unmarked(files []impl.File) (clean []impl.File, at, hash []impl.Place) {
	for _, f := range files {
		text := ""
		for _, c := range f.Text {
			switch c {
			case '@':
				at = append(at, impl.Place{File: f.Name, Offset: len(text)})
			case '#':
				hash = append(hash, impl.Place{File: f.Name, Offset: len(text)})
			default:
				text += string(c)
			}
		}
		clean = append(clean, impl.File{Name: f.Name, Text: text})
	}
	return clean, at, hash
}

// withLetters puts a letter at places of files.
func withLetters(files []impl.File, places []impl.Place, letter string) []impl.File {
	files = slices.Clone(files)
	for i, f := range files {
		for _, p := range places {
			if p.File == f.Name {
				files[i].Text = withByte(files[i].Text, p.Offset, letter)
			}
		}
	}
	return files
}

func withByte(text string, at int, letter string) string {
	return text[:at] + letter + text[at+1:]
}

func TestSpotConstants(t *testing.T) {
	roles := []int{impl.RoleDef, impl.RoleSig, impl.RoleUse, impl.RoleBinder, impl.RoleLocal}
	if !slices.Equal(roles, []int{1, 2, 3, 4, 5}) {
		t.Errorf("the roles are %v", roles)
	}
}

func TestSpotsOf(t *testing.T) {
	for line, want := range map[string]string{
		// One spot of each role.
		"x = 1": "0 def x", "x : I": "0 sig x", "x = y": "0 def x, 4 use y", "x = \\y.1": "0 def x, 5 binder y 5", "x = \\y.y": "0 def x, 5 binder y 5, 7 local y 5", "x = {y=1;2}": "0 def x, 5 binder y 5", "x = {y=1;y}": "0 def x, 5 binder y 5, 9 local y 5",
		// The letters of a type are no spots, nor is a file that is used.
		"x : x": "0 sig x", "a : (a>(b*I))": "0 sig a", "u : u": "0 sig u", "use A": "", "use X": "", "u = u": "0 def u, 4 use u",
		// Of each kind, from the left to the right.
		"x = 99": "0 def x", "x = A.x": "0 def x, 4 use A.x", "x = (y z)": "0 def x, 5 use y, 7 use z", "x = (z+y)": "0 def x, 5 use z, 7 use y", "x = (y,(x,A.y))": "0 def x, 5 use y, 8 use x, 10 use A.y", "x = ?<a,B.b,c>": "0 def x, 6 use a, 8 use B.b, 12 use c", "x = ^y": "0 def x, 5 use y", "x = _^_y": "0 def x, 7 use y",
		"x = (10+(9+y))": "0 def x, 11 use y", "x = {y=z;w}": "0 def x, 5 binder y 5, 7 use z, 9 use w", "x = ((A.a B.b) (C.c+12))": "0 def x, 6 use A.a, 10 use B.b, 16 use C.c",
		// Hidden names, and names that are bound twice.
		"f = \\f.f": "0 def f, 5 binder f 5, 7 local f 5", "f = \\x.\\x.x": "0 def f, 5 binder x 5, 8 binder x 8, 10 local x 8", "f = \\x.(\\x.x x)": "0 def f, 5 binder x 5, 9 binder x 9, 11 local x 9, 13 local x 5", "f = \\x.(x \\x.x)": "0 def f, 5 binder x 5, 8 local x 5, 11 binder x 11, 13 local x 11",
		"f = {x=1;{x=2;x}}": "0 def f, 5 binder x 5, 10 binder x 10, 14 local x 10", "f = {x=1;\\x.x}": "0 def f, 5 binder x 5, 10 binder x 10, 12 local x 10", "f = \\x.{x=1;x}": "0 def f, 5 binder x 5, 8 binder x 8, 12 local x 8", "f = ({x=1;x} x)": "0 def f, 6 binder x 6, 10 local x 6, 13 use x", "f = (\\x.x,x)": "0 def f, 6 binder x 6, 8 local x 6, 10 use x",
		"f = \\x.\\y.(x,y)": "0 def f, 5 binder x 5, 8 binder y 8, 11 local x 5, 13 local y 8", "f = \\x.\\y.\\x.(x,y)": "0 def f, 5 binder x 5, 8 binder y 8, 11 binder x 11, 14 local x 11, 16 local y 8",
		// A binding does not bind its name in its first part.
		"f = {x=x;x}": "0 def f, 5 binder x 5, 7 use x, 9 local x 5", "f = \\x.{x=x;x}": "0 def f, 5 binder x 5, 8 binder x 8, 10 local x 5, 12 local x 8", "f = {x={x=x;x};x}": "0 def f, 5 binder x 5, 8 binder x 8, 10 use x, 12 local x 8, 15 local x 5", "f = {x=\\x.x;x}": "0 def f, 5 binder x 5, 8 binder x 8, 10 local x 8, 12 local x 5", "f = {f=f;f}": "0 def f, 5 binder f 5, 7 use f, 9 local f 5",
		// A name with a file in front is never bound.
		"f = \\x.A.x": "0 def f, 5 binder x 5, 7 use A.x", "f = {x=A.x;(A.x,x)}": "0 def f, 5 binder x 5, 7 use A.x, 12 use A.x, 16 local x 5", "f = \\x.(X.x,x)": "0 def f, 5 binder x 5, 8 use X.x, 12 local x 5",
		// Of the document and the given test.
		"f = \\x.(x+y)": "0 def f, 5 binder x 5, 8 local x 5, 10 use y",
		// Other lines, and no lines.
		"": "", "--": "", "-- x = y": "", "--x = y": "", "x": "", "x =": "", "x = ": "", "x = (1+)": "", "x = (y": "", "x = y ": "", " x = y": "", "x=y": "", "X = y": "", "x = A": "", "x = A.": "", "x = 100": "", "x : J": "", "x : ": "", "x : (a>": "", "use a": "", "A.x = y": "", "x = \\A.1": "", "x = {y=1}": "",
		"x = y\n": "", "x = y\nx = y": "", "\nx = y": "", "x : I\n": "", "\n": "", "x = y\r": "", "x = y\x00": "", "x = \xff": "", "x\t= y": "", "\u00e9 = y": "",
	} {
		if got := spotTexts(impl.SpotsOf(line)); got != want {
			t.Errorf("SpotsOf(%q) = %s, not %s", line, got, want)
		}
	}
}

// freeIn reports whether a name is free in the expression of a line.
func freeIn(line, name string) bool {
	return slices.Contains(impl.FreeNames(impl.ParseLine(line).Expr), name)
}

// plainBound returns the At of the innermost binder of the name at an offset
// of a LineDef, or -1. One binds the name if both can get a letter that the
// line does not have, and this is not free then.
func plainBound(line string, at int) int {
	fresh := string(valueLetters[strings.IndexFunc(valueLetters, func(c rune) bool { return !strings.ContainsRune(line, c) })])
	for binder := at - 1; binder > 4; binder-- {
		if isBinder(line, binder) && line[binder] == line[at] && !freeIn(withByte(withByte(line, at, fresh), binder, fresh), fresh) {
			return binder
		}
	}
	return -1
}

func isBinder(line string, at int) bool {
	return line[at-1] == '\\' || line[at-1] == '{'
}

// plainSpots looks for letters in the text of a line.
func plainSpots(line string) []impl.Spot {
	l := impl.ParseLine(line)
	switch l.Kind {
	case impl.LineSig:
		return []impl.Spot{{Name: l.Name, Role: impl.RoleSig, Bound: -1}}
	case impl.LineDef:
	default:
		return nil
	}
	spots := []impl.Spot{{Name: l.Name, Role: impl.RoleDef, Bound: -1}}
	for at := 4; at < len(line); at++ {
		s := impl.Spot{At: at, Name: line[at : at+1], Role: impl.RoleUse, Bound: -1}
		switch {
		case strings.Contains(fileLetters, s.Name):
			s.Name = line[at : at+3]
			at += 2
		case !strings.Contains(valueLetters, s.Name):
			continue
		case isBinder(line, at):
			s.Role, s.Bound = impl.RoleBinder, at
		default:
			if s.Bound = plainBound(line, at); s.Bound >= 0 {
				s.Role = impl.RoleLocal
			}
		}
		spots = append(spots, s)
	}
	return spots
}

// TestSpotsOfAllExprs compares the spots of all small and many random
// expressions, at the limits too, with the plain ones.
func TestSpotsOfAllExprs(t *testing.T) {
	list := exprsUpTo(5, []impl.Expr{nameExpr("x"), nameExpr("A.x"), numExpr(10)})
	list = append(list, deepExpr(impl.MaxDepth), chainExpr(impl.MaxDepth), wideExpr(impl.MaxNodes), wideExpr(impl.MaxNodes-1))
	r := rand.New(rand.NewSource(101))
	for range 5000 {
		list = append(list, randomExpr(r, 6))
	}
	count := map[int]int{}
	for _, e := range list {
		if !impl.ExprValid(e) {
			continue
		}
		line := "y = " + impl.FormatExpr(e)
		got, want := impl.SpotsOf(line), plainSpots(line)
		if !slices.Equal(got, want) {
			t.Fatalf("SpotsOf(%s) = %s, not %s", line, spotTexts(got), spotTexts(want))
		}
		for _, s := range got {
			count[s.Role]++
		}
	}
	if count[impl.RoleDef] < 5000 || count[impl.RoleUse] < 5000 || count[impl.RoleBinder] < 5000 || count[impl.RoleLocal] < 3000 {
		t.Errorf("the spots are %v", count)
	}
}

func TestSpotAt(t *testing.T) {
	files := filesOf("B", "(\nx : a\n\nx = (A.y+12)\nuse A\n{\n-- x = y", "A", "y = \\x.(x,y)")
	var offsets []int
	for n := -3; n < len(files[0].Text)+3; n++ {
		offsets = append(offsets, n)
	}
	offsets = append(offsets, math.MinInt, math.MinInt+1, -1000, 1000, math.MaxInt-1, math.MaxInt)
	for file, want := range map[string]map[int]string{
		// x : a begins at 2, and x = (A.y+12) at 9.
		"B": {2: "0 sig x", 9: "0 def x", 14: "5 use A.y", 15: "5 use A.y", 16: "5 use A.y"},
		"A": {0: "0 def y", 5: "5 binder x 5", 8: "8 local x 5", 10: "10 use y"},
		"C": {}, "": {}, "a": {}, "AB": {}, "A.": {}, "\xff": {},
	} {
		for _, n := range offsets {
			s, ok := impl.SpotAt(files, impl.Place{File: file, Offset: n})
			if spotText(s) != want[n] || ok != (want[n] != "") {
				t.Errorf("SpotAt(%q, %d) = %s, %v", file, n, spotText(s), ok)
			}
		}
	}
}

// placeOf writes a place as the file and the offset.
func placeOf(p impl.Place) string {
	return p.File + strconv.Itoa(p.Offset)
}

func placeTexts(places []impl.Place) string {
	return joined(places, placeOf, " ")
}

func TestDefinitionAt(t *testing.T) {
	for _, marked := range [][]impl.File{
		// Of each role: @ is in front of the spot, and # of its definition.
		filesOf("A", "y = 1\n#@x = 1"), filesOf("A", "@x : I\n\n#x = 1"), filesOf("A", "#x = 1\n@x : I"), filesOf("A", "x : I\ny = @x\n#x = 1\n"), filesOf("A", "#x = @x"), filesOf("A", "\nf = \\#@x.x"), filesOf("A", "f = \\#x.@x"), filesOf("A", "f = {#@x=1;x}"), filesOf("A", "f = {#x=1;@x}"),
		// At the first and at the last byte of a name with a file in front.
		filesOf("A", "use B\nx = (1+@B.x)", "B", "y = 1\n#x = 1"), filesOf("A", "use B\nx = (1+B@.x)", "B", "y = 1\n#x = 1"), filesOf("A", "use B\nx = (1+B.@x)", "B", "y = 1\n#x = 1"), filesOf("B", "x : I\n#x = 1", "A", "x = @B.x\nuse B"),
		// A second line with the name, and a second signature.
		filesOf("A", "#x = 1\n@x = 2"), filesOf("A", "#x = 1\nx = 2\ny = @x"), filesOf("A", "x : I\n@x : I\n#x = 1\nx = 2"), filesOf("A", "#x = 1\nx = @x"), filesOf("A", "x = (\n#x = 1\n-- x = 1\n@x : I"), filesOf("A", "use B\nx = @B.x", "B", "#x = 1\nx = 2"),
		// Hidden names.
		filesOf("A", "x = 1\nf = \\#x.@x"), filesOf("A", "#x = 1\nf = {x=@x;x}"), filesOf("A", "x = 1\nf = {#x=x;@x}"), filesOf("A", "x = 1\nf = \\#x.{x=@x;x}"), filesOf("A", "x = 1\nf = \\x.{#x=x;@x}"), filesOf("A", "#x = 1\nf = (\\x.x,@x)"), filesOf("A", "f = \\x.\\#x.@x"), filesOf("A", "f = \\#x.(\\x.x @x)"),
		filesOf("A", "use B\nx = 1\nf = \\x.@B.x", "B", "#x = 1"), filesOf("A", "use B\n#x = @x", "B", "x = 1"), filesOf("A", "use B\nx = @B.x", "B", "#x = x"),
		// Also in a line that does not define its name, and without a type.
		filesOf("A", "y = 1\ny = @x\n#x = (1 1)"), filesOf("A", "#x = (1 w)\ny = @x"),
		// What is not defined, or cannot be used: there is no #.
		filesOf("A", "x = @w"), filesOf("A", "@x : I"), filesOf("A", "x : I\ny = @x"), filesOf("A", "x = @B.x", "B", "x = 1"), filesOf("A", "use B\nx = @B.x"), filesOf("A", "use B\nx = @B.x", "B", "y = x"), filesOf("A", "use B\nx = @B.x", "B", "x : I"), filesOf("A", "use A\nx = @A.x"), filesOf("A", "use B\ny = @x", "B", "x = 1"),
		filesOf("A", "use B\nuse C\nx = @C.x", "B", "use C", "C", "y = 1"), filesOf("A", "use B\ny = @C.x", "B", "use C\nx = 1", "C", "x = 1"), filesOf("A", "f = (\\x.x,@x)"), filesOf("A", "f = {x=@x;x}"), filesOf("A", "f = \\x.@A.x\nx = 1"),
		// Where there is no spot.
		filesOf("A", "x@ = x"), filesOf("A", "x @= x"), filesOf("A", "x =@ x"), filesOf("A", "x = x@"), filesOf("A", "x = x@\n"), filesOf("A", "x = x\n@"), filesOf("A", "x = @1\ny = x"), filesOf("A", "x = @(x\ny = x"), filesOf("A", "x = (@x\ny = x"), filesOf("A", "-- @x\nx = 1"), filesOf("A", "@use B\nu = 1", "B", ""), filesOf("A", "use @B\nu = 1", "B", ""), filesOf("A", "x : @x\nx = 1"), filesOf("A", "f = @\\x.x"), filesOf("A", "f = \\x@.x"), filesOf("A", "f = {x@=1;x}"),
	} {
		files, at, want := unmarked(marked)
		p, ok := impl.DefinitionAt(files, at[0])
		if ok != (len(want) == 1) || ok && p != want[0] || !ok && p != (impl.Place{}) {
			t.Errorf("DefinitionAt(%q) = %v, %v", marked, p, ok)
		}
	}
}

// refCase has files with a # in front of each reference of a full name.
type refCase struct {
	marked []impl.File
	full   string
}

func refCases() []refCase {
	return []refCase{
		// Of each role.
		{filesOf("A", "#x = 1"), "A.x"}, {filesOf("A", "#x : I\n#x = (1+#x)\ny = #x"), "A.x"}, {filesOf("A", "y = #x\n#x = 1\n#x : I\n"), "A.x"}, {filesOf("A", "y = (#x,(#x,\\z.#x))\n#x = 1"), "A.x"},
		// With its file in front: the letter of the name.
		{filesOf("A", "use B\ny = (1,B.#x)", "B", "#x = 1"), "B.x"}, {filesOf("B", "#x = 1\ny = #x", "A", "y = (B.#x B.#x)\nuse B\nx = {x=B.#x;x}"), "B.x"}, {filesOf("A", "#x = 1", "B", "use A\nx = A.#x", "C", "use B\nx = (B.x,A.x)", "D", "use A\nx = (x,A.#x)"), "A.x"},
		{filesOf("C", "use A\ny = A.#x", "A", "#x = 1", "B", "use A\ny = A.#x"), "A.x"}, {filesOf("A", "use B\n#x = (#x,B.x)", "B", "use A\nx = (x,A.#x)"), "A.x"},
		// Hidden names, and those whose letter is bound but not the name with its file.
		{filesOf("A", "#x = 1\nf = \\x.x"), "A.x"}, {filesOf("A", "#x = 1\nf = {x=#x;x}"), "A.x"}, {filesOf("A", "#x = 1\nf = (\\x.x,#x)\ng = {x={x=#x;x};x}"), "A.x"}, {filesOf("A", "use B\nf = \\x.(x,B.#x)\ng = {x=1;B.#x}", "B", "#x = 1"), "B.x"},
		// A second line with the name, and a second signature.
		{filesOf("A", "#x : I\n#x : a\n#x = 1\n#x = #x\ny = 1\ny = #x"), "A.x"}, {filesOf("A", "use B\ny = 1\ny = B.#x\ny = ^B.#x", "B", "#x = 1\n#x = (1 1)"), "B.x"},
		// Not in other files, or in lines that cannot be read.
		{filesOf("A", "#x = 1\ny = (x\n-- x\nx : \nx = x \nuse X"), "A.x"}, {filesOf("A", "#x = 1\n#x : x", "B", "x = x\nx : I\nuse A"), "A.x"}, {filesOf("A", "#x = 1", "B", "y = A.x"), "A.x"}, {filesOf("A", "#x = 1\nuse A\ny = A.x"), "A.x"}, {filesOf("A", "#x = 1", "B", "use A\ny = (B.x,(C.x,A.#x))\nx = 1"), "A.x"},
		// Whether or not it has a type.
		{filesOf("A", "#x = (1 w)\ny = #x"), "A.x"}, {filesOf("A", "#x = #x"), "A.x"}, {filesOf("A", "x = 1\ny = x\n#w = 1"), "A.w"},
		// Of no definition.
		{filesOf("A", "x : I\ny = x"), "A.x"}, {filesOf("A", "y = x"), "A.x"}, {filesOf("A", "use B\ny = B.x", "B", "x : I"), "B.x"}, {filesOf("A", "use B\ny = B.x"), "B.x"}, {filesOf("A", "y = (x\n-- x = 1"), "A.x"}, {filesOf("A", "x = 1\ny = x"), "B.x"}, {filesOf("A", "x = 1", "B", "use A\ny = (x,A.x)"), "B.x"}, {nil, "A.x"}, {[]impl.File{}, "A.x"},
	}
}

func TestReferencesOf(t *testing.T) {
	for _, c := range refCases() {
		files, _, want := unmarked(c.marked)
		if got := impl.ReferencesOf(files, c.full[:1], c.full[2:]); !slices.Equal(got, want) {
			t.Errorf("ReferencesOf(%q, %s) = %s", c.marked, c.full, placeTexts(got))
		}
	}
}

// checkRename checks that a name can become another one, with the letters at the places, or that it cannot.
func checkRename(t *testing.T, files []impl.File, full, to string, places []impl.Place, can bool) {
	t.Helper()
	if got := impl.CanRename(files, full[:1], full[2:], to); got != can {
		t.Errorf("%q: CanRename(%s, %q) = %v", files, full, to, got)
	}
	var want []impl.File
	if can {
		want = withLetters(files, places, to)
	}
	if got, ok := impl.RenameName(files, full[:1], full[2:], to); ok != can || !slices.Equal(got, want) {
		t.Errorf("%q: RenameName(%s, %q) = %q, %v, not %q", files, full, to, got, ok, want)
	}
}

func TestRenameName(t *testing.T) {
	for _, c := range refCases() {
		files, _, places := unmarked(c.marked)
		for _, to := range []string{"k", "q", "r"} {
			checkRename(t, files, c.full, to, places, len(places) > 0)
		}
	}
	for _, c := range []struct {
		marked   []impl.File
		full, to string
	}{
		// A letter that is bound elsewhere, outside of the uses, or only in the other part of a binding.
		{filesOf("A", "#x = 1\nf = \\k.k"), "A.x", "k"}, {filesOf("A", "#x = 1\nf = (\\k.k,#x)"), "A.x", "k"}, {filesOf("A", "#x = 1\nf = {k=#x;k}"), "A.x", "k"}, {filesOf("A", "#x = {k=#x;1}"), "A.x", "k"}, {filesOf("A", "#x = 1\nf = ({k=1;k},{k=#x;k})"), "A.x", "k"}, {filesOf("A", "#x = \\k.k"), "A.x", "k"}, {filesOf("A", "#x = \\y.(y,#x)\nf = \\y.y"), "A.x", "z"},
		// Around uses that are bound themselves.
		{filesOf("A", "#x = 1\nf = \\k.\\x.x"), "A.x", "k"}, {filesOf("A", "#x = 1\nf = \\x.\\k.x"), "A.x", "k"}, {filesOf("A", "#x = 1\nf = \\x.{k=x;x}"), "A.x", "k"}, {filesOf("A", "#x = 1\nf = \\k.{x=k;x}"), "A.x", "k"},
		// Around a use with the file in front, which is not bound by it.
		{filesOf("A", "#x = 1", "B", "use A\nf = \\k.A.#x"), "A.x", "k"}, {filesOf("A", "#x = 1", "B", "use A\nf = {k=1;(k,A.#x)}\nk = 1\ny = k\nk : I"), "A.x", "k"}, {filesOf("A", "#x = 1\nf = \\k.B.x\nuse B", "B", "x = 1"), "A.x", "k"},
		// In other files, or with another file in front.
		{filesOf("A", "#x = 1", "B", "k = k\nk : I"), "A.x", "k"}, {filesOf("A", "#x = B.k", "B", "k = 1"), "A.x", "k"}, {filesOf("A", "use B\n#x = B.k", "B", "k = 1"), "A.x", "k"}, {filesOf("A", "#x = 1", "B", "use A\ny = (B.k,(C.k,k))"), "A.x", "k"},
		// With the file in front, in a file that does not use it.
		{filesOf("A", "#x = 1", "B", "y = A.k"), "A.x", "k"}, {filesOf("A", "#x = A.k"), "A.x", "k"}, {filesOf("A", "#x = 1", "B", "use C\nx = (A.k,A.x)", "C", "use A\nx = A.#x"), "A.x", "k"},
		// In lines that are no definitions or signatures.
		{filesOf("A", "#x = 1\n-- k = k\nk = (1\nk\nk :\nuse K"), "A.x", "k"}, {filesOf("A", "#x = 1\n#x : k"), "A.x", "k"}, {filesOf("A", "#x = 1", "B", "use A\n-- A.k\ny = (A.k"), "A.x", "k"},
		// To the letters of other lines.
		{filesOf("A", "use B\n#x = 1\n#x : I\ny = #x", "B", "use A\nz = (A.y,A.#x)"), "A.x", "u"}, {filesOf("A", "#u = 1\n#u : I\nuse B\nz = #u"), "A.u", "x"}, {filesOf("A", "#a = #a"), "A.a", "z"}, {filesOf("Z", "#z = #z", "A", "use Z\nz = Z.#z"), "Z.z", "a"},
	} {
		files, _, places := unmarked(c.marked)
		checkRename(t, files, c.full, c.to, places, true)
		if got := impl.ReferencesOf(files, c.full[:1], c.full[2:]); !slices.Equal(got, places) {
			t.Errorf("ReferencesOf(%q, %s) = %s", c.marked, c.full, placeTexts(got))
		}
	}
}

func TestCannotRename(t *testing.T) {
	for _, c := range []struct {
		files []impl.File
		to    string
	}{
		// The old name, and what is no name of a value.
		{filesOf("A", "x = 1"), "x"}, {filesOf("A", "x = 1"), ""}, {filesOf("A", "x = 1"), "A"}, {filesOf("A", "x = 1"), "1"}, {filesOf("A", "x = 1"), "kk"}, {filesOf("A", "x = 1"), "A.k"}, {filesOf("A", "x = 1"), "k\n"}, {filesOf("A", "x = 1"), " "}, {filesOf("A", "x = 1"), "`"}, {filesOf("A", "x = 1"), "{"}, {filesOf("A", "x = 1"), "\xe9"}, {filesOf("A", "x = 1"), "\x00"},
		// Its file has the name already.
		{filesOf("A", "x = 1\nk = 1"), "k"}, {filesOf("A", "k = 1\nx = k"), "k"}, {filesOf("A", "x = 1\nk : I"), "k"}, {filesOf("A", "k : I\nx = 1\nk = 2"), "k"}, {filesOf("A", "x = 1\nx = 2\nk = 1"), "k"}, {filesOf("A", "k = (1 1)\nx = 1"), "k"},
		// It is free in a line, also in one that does not define its name.
		{filesOf("A", "x = k"), "k"}, {filesOf("A", "x = 1\ny = (x,k)"), "k"}, {filesOf("A", "x = 1\ny = 1\ny = k"), "k"}, {filesOf("A", "x = 1\ny = {k=k;1}"), "k"}, {filesOf("A", "x = 1\ny = (\\k.k,k)"), "k"}, {filesOf("A", "x = 1\nx = k"), "k"},
		// It is free with the file in front, in a file that uses this one.
		{filesOf("A", "x = 1", "B", "use A\ny = A.k"), "k"}, {filesOf("B", "y = \\k.A.k\nuse A", "A", "x = 1"), "k"}, {filesOf("A", "x = 1", "B", "", "C", "use A\ny = 1\ny = (1,A.k)"), "k"}, {filesOf("A", "x = 1", "B", "use A\nuse A\nx = (A.x,A.k)"), "k"}, {filesOf("A", "x = 1\nuse A\ny = A.k"), "k"},
		// A function or a binding around a use binds it.
		{filesOf("A", "x = 1\nf = \\k.x"), "k"}, {filesOf("A", "x = 1\nf = {k=1;x}"), "k"}, {filesOf("A", "x = 1\nf = {k=x;x}"), "k"}, {filesOf("A", "x = 1\nf = \\k.{k=x;1}"), "k"}, {filesOf("A", "x = 1\nf = \\k.{x=x;x}"), "k"}, {filesOf("A", "x = 1\nf = \\k.\\y.(1,(y,x))"), "k"}, {filesOf("A", "x = 1\nf = \\y.\\k.(y x)"), "k"}, {filesOf("A", "x = \\k.x"), "k"},
		{filesOf("A", "x = 1\ny = 1\ny = \\k.x"), "k"}, {filesOf("A", "x = 1\nf = (x,(\\k.k,\\k.x))"), "k"}, {filesOf("A", "x = 1\nf = \\k.(\\x.x x)"), "k"}, {filesOf("A", "x = 1\nf = {y={k=1;x};x}"), "k"}, {filesOf("A", "x = 1\nf = \\k.?<1,^2,_x>"), "k"},
		// There is no such name.
		{filesOf("A", "y = 1"), "k"}, {filesOf("A", "x : I\ny = x"), "k"}, {filesOf("A", "-- x = 1\nx = (1"), "k"}, {filesOf("B", "x = 1"), "k"}, {filesOf("A", "", "B", "use A\nx = A.x"), "k"}, {filesOf("A", ""), "k"}, {nil, "k"}, {[]impl.File{}, "k"},
	} {
		checkRename(t, c.files, "A.x", c.to, nil, false)
	}
	files := filesOf("A", "x = 1\n-- a line\ny : I\n(", "B", "use A\nz = A.x")
	for _, bad := range badValueNames() {
		checkRename(t, files, "A.x", bad, nil, false)
		checkRename(t, files, "A."+bad, "k", nil, false)
	}
	for _, bad := range append(badFileNames(), "C", "Q", "x", "\xff") {
		if impl.CanRename(files, bad, "x", "k") || len(impl.ReferencesOf(files, bad, "x")) != 0 {
			t.Errorf("the file %q has a name", bad)
		}
		if out, ok := impl.RenameName(files, bad, "x", "k"); ok || len(out) != 0 {
			t.Errorf("RenameName(%q) = %q, %v", bad, out, ok)
		}
	}
	for _, bad := range []string{"", "y", "z", "xx", "A.x", "-", "x ", "\xff", "\x00"} {
		checkRename(t, files, "A."+bad, "k", nil, false)
	}
}

func TestHoverAt(t *testing.T) {
	for _, c := range []struct {
		marked []impl.File
		want   string
	}{
		// Bound names.
		{filesOf("A", "f = \\@x.x"), "local x"}, {filesOf("A", "f = \\x.@x"), "local x"}, {filesOf("A", "f = {@x=1;x}"), "local x"}, {filesOf("A", "f = {x=1;@x}"), "local x"}, {filesOf("A", "x = 1\nf = \\@x.x"), "local x"}, {filesOf("A", "x = 1\nf = \\x.@x"), "local x"}, {filesOf("A", "x = 1\nf = \\x.{x=@x;w}"), "local x"},
		// Names that expressions of the file cannot use.
		{filesOf("A", "x = @w"), "unknown w"}, {filesOf("A", "x : I\ny = @x"), "unknown x"}, {filesOf("A", "x = @B.x", "B", "x = 1"), "unknown B.x"}, {filesOf("A", "use B\nx = @B.x"), "unknown B.x"}, {filesOf("A", "use B\nx = @B.y", "B", "x = 1"), "unknown B.y"}, {filesOf("A", "use B\nx = @B.x", "B", "x : I"), "unknown B.x"}, {filesOf("A", "use A\nx = 1\ny = A@.x"), "unknown A.x"}, {filesOf("A", "f = {x=@x;x}"), "unknown x"}, {filesOf("A", "f = \\x.A.@x\nx = 1"), "unknown A.x"}, {filesOf("A", "use B\ny = @x", "B", "x = 1"), "unknown x"},
		// Names with types.
		{filesOf("A", "@x = 1"), "A.x : I"}, {filesOf("A", "x = 1\ny = @x"), "A.x : I"}, {filesOf("A", "@x : (b>b)\nx = \\y.y"), "A.x : (a>a)"}, {filesOf("A", "x : (b>b)\n@x = \\y.y"), "A.x : (a>a)"}, {filesOf("A", "x : (b>b)\nx = \\y.y\ny = (@x 1)"), "A.x : (a>a)"}, {filesOf("A", "use B\nx = (@B.i 1)", "B", "i = \\x.x"), "B.i : (a>a)"}, {filesOf("A", "use B\nx = (B@.i 1)", "B", "i = \\x.x"), "B.i : (a>a)"}, {filesOf("A", "use B\nx = (B.@i 1)", "B", "i = \\x.x"), "B.i : (a>a)"},
		{filesOf("A", "use B\nx = 1\ny = (@x,B.x)", "B", "x = (1,1)"), "A.x : I"}, {filesOf("A", "use B\nx = 1\ny = (x,@B.x)", "B", "x = (1,1)"), "B.x : (I*I)"}, {filesOf("A", "use B\nx = 1\nf = \\x.@B.x", "B", "x = (1,1)"), "B.x : (I*I)"}, {filesOf("A", "x = 1\nf = {x=@x;w}"), "A.x : I"}, {filesOf("Q", "f = \\x.\\y.?<y,(x,@f),1>\nf : a"), "Q.f : a"},
		// By the first line, and by the first signature; also in a line that does not define its name.
		{filesOf("A", "x = 1\n@x = (1,1)"), "A.x : I"}, {filesOf("A", "x = 1\nx = (1 1)\ny = @x"), "A.x : I"}, {filesOf("A", "x : I\n@x : (I*I)\nx = 1"), "A.x : I"}, {filesOf("A", "x : I\nx = 1\ny = 1\ny = @x"), "A.x : I"}, {filesOf("A", "x = (1 1)\n@x = 1"), "A.x ?"},
		// With a signature that does not fit, or with faults in other lines.
		{filesOf("A", "x : I\n@x = (1,1)"), "A.x : I"}, {filesOf("A", "x : I\n@x = w"), "A.x : I"}, {filesOf("A", "x : I\nx = @w"), "unknown w"}, {filesOf("A", "(\nx = (\n@x = 1\nuse Q"), "A.x : I"},
		// Names whose types are not found.
		{filesOf("A", "@x = (1 1)"), "A.x ?"}, {filesOf("A", "x = (1 1)\ny = @x"), "A.x ?"}, {filesOf("A", "x = (1 1)\n@y = x"), "A.y ?"}, {filesOf("A", "@x = w"), "A.x ?"}, {filesOf("A", "@x = x"), "A.x ?"}, {filesOf("A", "x = @x"), "A.x ?"}, {filesOf("A", "use B\nx = @B.x", "B", "use A\nx = A.x"), "B.x ?"}, {filesOf("A", doubled+"g = (f,f)\nh = @g"), "A.g ?"}, {filesOf("A", "@x : I"), "A.x ?"}, {filesOf("A", "@x : I\ny = x"), "A.x ?"}, {filesOf("B", "y = 1\ny : I\n@x : I\nx : I"), "B.x ?"},
		// No spots.
		{filesOf("A", "x@ = 1"), ""}, {filesOf("A", "x = @1"), ""}, {filesOf("A", "x = 1@"), ""}, {filesOf("A", "x = x@"), ""}, {filesOf("A", "x = x@\nx = x"), ""}, {filesOf("A", "x : @a\nx = 1"), ""}, {filesOf("A", "@use B"), ""}, {filesOf("A", "use @B", "B", ""), ""}, {filesOf("A", "@-- x"), ""}, {filesOf("A", "-- @x\nx = 1"), ""}, {filesOf("A", "@x = (x"), ""}, {filesOf("A", "x = (@x"), ""}, {filesOf("A", "x = (@"), ""}, {filesOf("A", "@"), ""}, {filesOf("A", "\n@\n"), ""}, {filesOf("A", "f = \\x@.x"), ""}, {filesOf("A", "f = @\\x.x"), ""}, {filesOf("A", "f = (x@,y)"), ""},
	} {
		files, at, _ := unmarked(c.marked)
		if got := impl.HoverAt(files, at[0]); got != c.want {
			t.Errorf("HoverAt(%q) = %q, not %q", c.marked, got, c.want)
		}
	}
}

// checkNoSpot checks that nothing is found at a place.
func checkNoSpot(t *testing.T, files []impl.File, p impl.Place) {
	t.Helper()
	s, ok := impl.SpotAt(files, p)
	d, found := impl.DefinitionAt(files, p)
	hover := impl.HoverAt(files, p)
	if ok || found || s != (impl.Spot{}) || d != (impl.Place{}) || hover != "" {
		t.Errorf("%.50q, %v: the spot %v, the definition %v, and %q", files, p, s, d, hover)
	}
}

// TestNoSpots has places that are not there.
func TestNoSpots(t *testing.T) {
	text := "x = x\ny = \\z.(z,x)\nz : I"
	files := filesOf("A", text, "B", "", "C", "(", "D", text+"\n")
	for _, f := range files {
		for _, n := range []int{math.MinInt, math.MinInt + 1, -1000, -6, -2, -1, len(f.Text), len(f.Text) + 1, len(f.Text) + 2, 1000, 1 << 32, math.MaxInt - 1, math.MaxInt} {
			checkNoSpot(t, files, impl.Place{File: f.Name, Offset: n})
		}
	}
	for _, file := range append(badFileNames(), "E", "Q", "x", "AA", "\xff") {
		for _, n := range []int{0, 4, 10, 12, 14} {
			checkNoSpot(t, files, impl.Place{File: file, Offset: n})
			checkNoSpot(t, nil, impl.Place{File: file, Offset: n})
			checkNoSpot(t, []impl.File{}, impl.Place{File: "A", Offset: n})
		}
	}
}

// TestNoSpotsInInvalidFiles has lists of files that are not valid, some of
// them only by what they have beside a text with spots.
func TestNoSpotsInInvalidFiles(t *testing.T) {
	text := "x = x\ny = \\z.(z,x)\nz : I\nuse B\nw = B.x"
	lists := [][]impl.File{
		filesOf("A", text, "A", text), filesOf("A", text, "B", text, "A", ""), filesOf("A", text, "B", text, "C", text, "D", text, "E", text), filesOf("A", text, "B", "", "C", "", "D", "", "E", ""),
		filesOf("A", text+"\n--"+strings.Repeat("-", impl.MaxText)), filesOf("A", text+strings.Repeat("\n", impl.MaxFileLine)), filesOf("A", text, "B", longest+"x"), filesOf("A", text+"\n\t"),
	}
	for _, bad := range badFileNames() {
		lists = append(lists, filesOf("A", text, bad, text), filesOf(bad, text, "A", text))
	}
	for _, files := range append(lists, invalidFiles()...) {
		for _, file := range []string{"A", "B", files[0].Name, files[len(files)-1].Name} {
			for _, n := range []int{0, 4, 11, 14, 18, 34} {
				checkNoSpot(t, files, impl.Place{File: file, Offset: n})
			}
			for _, name := range []string{"x", "y", ""} {
				if got := impl.ReferencesOf(files, file, name); len(got) != 0 {
					t.Errorf("%.50q: ReferencesOf(%q, %q) = %v", files, file, name, got)
				}
				out, ok := impl.RenameName(files, file, name, "k")
				if ok || len(out) != 0 || impl.CanRename(files, file, name, "k") {
					t.Errorf("%.50q: RenameName(%q, %q) = %q, %v", files, file, name, out, ok)
				}
			}
		}
	}
}

// plainCanRename follows the chapter line by line: a use is captured if the
// new name is not free when it stands there.
func plainCanRename(files []impl.File, file, name, to string) bool {
	text, _ := impl.FindFile(files, file)
	if _, ok := impl.DefLine(text, name); !ok || to == name || len(to) != 1 || !strings.Contains(valueLetters, to) {
		return false
	}
	for _, f := range files {
		for _, line := range impl.LinesOf(f.Text) {
			l := impl.ParseLine(line)
			if f.Name == file && (l.Name == to || freeIn(line, to)) || slices.Contains(impl.UsesOf(f.Text), file) && freeIn(line, file+"."+to) {
				return false
			}
			for _, s := range plainSpots(line) {
				if f.Name == file && s.Role == impl.RoleUse && s.Name == name && !freeIn(withByte(line, s.At, to), to) {
					return false
				}
			}
		}
	}
	return true
}

// placedSpot is a spot, the place of its first byte, and that at which its line begins.
type placedSpot struct {
	impl.Spot
	first, line impl.Place
}

func plainPlaced(files []impl.File) []placedSpot {
	var list []placedSpot
	for _, f := range files {
		start := 0
		for _, line := range strings.Split(f.Text, "\n") {
			for _, s := range plainSpots(line) {
				list = append(list, placedSpot{s, impl.Place{File: f.Name, Offset: start + s.At}, impl.Place{File: f.Name, Offset: start}})
			}
			start += len(line) + 1
		}
	}
	return list
}

// plainReferences is also right for names that are not defined: these have no references.
func plainReferences(p *plainNames, spots []placedSpot, full string) []impl.Place {
	var places []impl.Place
	for _, s := range spots {
		own := s.first.File == full[:1]
		uses := !own && slices.Contains(impl.UsesOf(p.texts[s.first.File]), full[:1])
		if _, ok := p.defs[full]; ok && s.Bound < 0 && (own && s.Name == full[2:] || uses && s.Name == full) {
			places = append(places, impl.Place{File: s.first.File, Offset: s.first.Offset + len(s.Name) - 1})
		}
	}
	return places
}

// plainDefinition returns what DefinitionAt of the bytes of a spot should.
func plainDefinition(p *plainNames, s placedSpot) (impl.Place, bool) {
	file := s.first.File
	if s.Bound >= 0 {
		return impl.Place{File: file, Offset: s.line.Offset + s.Bound}, true
	}
	if !p.canUse(file, s.Name) {
		return impl.Place{}, false
	}
	full := p.full(file+".", s.Name)
	before := 0
	for _, line := range impl.LinesOf(p.texts[full[:1]])[:p.lines[full]] {
		before += len(line) + 1
	}
	return impl.Place{File: full[:1], Offset: before}, true
}

func plainHover(p *plainNames, s placedSpot) string {
	full := p.full(s.first.File+".", s.Name)
	_, defined := p.defs[full]
	switch {
	case s.Bound >= 0:
		return "local " + s.Name
	case s.Role == impl.RoleUse && !p.canUse(s.first.File, s.Name):
		return "unknown " + s.Name
	}
	if x, code, _ := p.typeOf(full); defined && code == impl.NameOk {
		return full + " : " + impl.FormatType(x)
	}
	return full + " ?"
}

// spotCount says how much was found in the files that were compared.
type spotCount struct {
	roles                              map[int]int
	hovers, defined, references        int
	renamed, refused, types, mentioned int
}

// comparePlaces compares the spots of files, and what is found at them, with the plain ones.
func comparePlaces(t *testing.T, files []impl.File, p *plainNames, spots []placedSpot, count *spotCount) {
	t.Helper()
	at := map[impl.Place]placedSpot{}
	for _, s := range spots {
		for i := range len(s.Name) {
			at[impl.Place{File: s.first.File, Offset: s.first.Offset + i}] = s
		}
		for _, i := range []int{0, len(s.Name) - 1} {
			place := impl.Place{File: s.first.File, Offset: s.first.Offset + i}
			want, ok := plainDefinition(p, s)
			if got, found := impl.DefinitionAt(files, place); got != want || found != ok {
				t.Fatalf("%q: DefinitionAt(%v) = %v, %v, not %v", files, place, got, found, want)
			}
			if got, want := impl.HoverAt(files, place), plainHover(p, s); got != want {
				t.Fatalf("%q: HoverAt(%v) = %q, not %q", files, place, got, want)
			}
			if ok {
				count.defined++
			}
			if strings.Contains(plainHover(p, s), " : ") {
				count.hovers++
			}
		}
		count.roles[s.Role]++
	}
	for _, f := range files {
		for n := -1; n <= len(f.Text)+1; n++ {
			place := impl.Place{File: f.Name, Offset: n}
			want, ok := at[place]
			if got, found := impl.SpotAt(files, place); got != want.Spot || found != ok {
				t.Fatalf("%q: SpotAt(%v) = %v, %v", files, place, got, found)
			}
		}
	}
}

// compareRenames compares the references and new names with the plain ones.
func compareRenames(t *testing.T, files []impl.File, p *plainNames, spots []placedSpot, letters string, count *spotCount) {
	t.Helper()
	for _, f := range append(filesOf("Q", ""), files...) {
		for _, name := range letters {
			full := f.Name + "." + string(name)
			places := plainReferences(p, spots, full)
			if got := impl.ReferencesOf(files, f.Name, string(name)); !slices.Equal(got, places) {
				t.Fatalf("%q: ReferencesOf(%s) = %s, not %s", files, full, placeTexts(got), placeTexts(places))
			}
			count.references += len(places)
			for _, to := range letters {
				can := plainCanRename(files, f.Name, string(name), string(to))
				checkRename(t, files, full, string(to), places, can)
				switch {
				case can:
					checkSameTypes(t, p, full, string(to), withLetters(files, places, string(to)), count)
					count.renamed++
				case len(places) > 0:
					count.refused++
				}
			}
		}
	}
	if t.Failed() {
		t.FailNow()
	}
}

// checkSameTypes checks promise 10: in files in which a name has become
// another one, all names have the types, codes and deps that they had.
func checkSameTypes(t *testing.T, p *plainNames, full, to string, renamed []impl.File, count *spotCount) {
	t.Helper()
	now := func(name string) string {
		if name == full {
			return full[:2] + to
		}
		return name
	}
	q := plainNamesOf(renamed)
	for _, name := range p.names {
		if got, want := q.answer(now(name)), p.answer(name); got != want {
			t.Fatalf("%v: when %s becomes %s, %s becomes %s instead of %s", p.texts, full, to, name, got, want)
		}
		deps := p.deps(name)
		for i := range deps {
			deps[i] = now(deps[i])
		}
		if got := q.deps(now(name)); !slices.Equal(got, deps) {
			t.Fatalf("%v: when %s becomes %s, %s uses %v instead of %v", p.texts, full, to, name, got, deps)
		}
		if _, code, _ := p.typeOf(name); code == impl.NameOk {
			count.types++
			if name != full && slices.Contains(p.deps(name), full) {
				count.mentioned++
			}
		}
	}
	if len(q.names) != len(p.names) {
		t.Fatalf("%v: when %s becomes %s, the names become %v", p.texts, full, to, q.names)
	}
}

// TestAllSmallSpots compares all texts of up to three of these lines, beside a file that uses them.
func TestAllSmallSpots(t *testing.T) {
	lines := []string{"use B", "use A", "x = y", "y = \\x.(x,y)", "y = {x=x;(y,B.x)}", "z = {y=x;\\x.(y,(x,z))}", "x : I", "x = (A.y,B.y)", "z = \\y.x", "y = 10", "z = (1 y)"}
	count := spotCount{roles: map[int]int{}}
	for _, text := range upToThree(lines) {
		files := filesOf("A", text, "B", "use A\ny = \\x.(A.x,x)\nx = {x=A.y;x}")
		p, spots := plainNamesOf(files), plainPlaced(files)
		comparePlaces(t, files, p, spots, &count)
		compareRenames(t, files, p, spots, "xyzk", &count)
	}
	if count.roles[impl.RoleSig] < 50 || count.hovers < 500 || count.defined < 2000 || count.references < 2000 || count.renamed < 1000 || count.refused < 1000 || count.types < 1000 || count.mentioned < 100 {
		t.Errorf("the spots are %+v", count)
	}
}

// randomScopes is a list of files whose functions and bindings bind names that the files define.
func randomScopes(r *rand.Rand) []impl.File {
	files := randomDefs(r)
	for i, f := range files {
		lines := strings.Split(f.Text, "\n")
		for j := range lines {
			if r.Intn(3) > 0 {
				lines[j] = strings.ReplaceAll(lines[j], "n", string("abcdefghk"[r.Intn(9)]))
			}
		}
		files[i].Text = textOf(lines...)
	}
	return files
}

func TestRandomSpots(t *testing.T) {
	r := rand.New(rand.NewSource(102))
	count := spotCount{roles: map[int]int{}}
	for range 60 {
		files := randomScopes(r)
		p, spots := plainNamesOf(files), plainPlaced(files)
		comparePlaces(t, files, p, spots, &count)
		compareRenames(t, files, p, spots, "abckw", &count)
	}
	for role := impl.RoleDef; role <= impl.RoleLocal; role++ {
		if count.roles[role] < 50 {
			t.Errorf("only %d spots have the role %d", count.roles[role], role)
		}
	}
	if count.hovers < 1000 || count.defined < 2000 || count.references < 1000 || count.renamed < 500 || count.refused < 500 || count.types < 2000 || count.mentioned < 100 {
		t.Errorf("the spots are %+v", count)
	}
}

// TestRenamingChangesNoType checks promise 10 with what the program itself
// finds: the types, codes and faults stay, and the way back leads to the same files.
func TestRenamingChangesNoType(t *testing.T) {
	r := rand.New(rand.NewSource(103))
	renamed, typed, captured := 0, 0, 0
	for range 1500 {
		files := randomScopes(r)
		all := impl.AllNames(files)
		if len(all) == 0 {
			continue
		}
		full, to := all[r.Intn(len(all))], string("abcdefghkn"[r.Intn(10)])
		out, ok := impl.RenameName(files, full[:1], full[2:], to)
		if !ok {
			if forced := withLetters(files, impl.ReferencesOf(files, full[:1], full[2:]), to); faceTexts(forced) != faceTexts(files) {
				captured++
			}
			continue
		}
		renamed++
		for _, name := range all {
			now := name
			if name == full {
				now = full[:2] + to
			}
			before, after := nameAnswer(files, name[:1], name[2:]), nameAnswer(out, now[:1], now[2:])
			if before != after {
				t.Fatalf("%q: when %s becomes %s, %s becomes %s instead of %s", files, full, to, name, after, before)
			}
			if before[0] != '-' {
				typed++
			}
		}
		for _, f := range files {
			before, after := impl.FaultsOf(files, f.Name), impl.FaultsOf(out, f.Name)
			for i := range before {
				if f.Name == full[:1] && before[i].Name == full[2:] {
					before[i].Name = to
				}
			}
			if !slices.Equal(before, after) {
				t.Fatalf("%q: when %s becomes %s, the faults become %v", files, full, to, after)
			}
		}
		if back, ok := impl.RenameName(out, full[:1], to, full[2:]); !selfUse(files) && (!ok || !slices.Equal(back, files)) {
			t.Fatalf("%q: when %s becomes %s and this %s, the files become %q, %v", files, full, to, full, back, ok)
		}
	}
	if renamed < 300 || typed < 1000 || captured < 300 {
		t.Errorf("%d names are renamed, %d have types, and %d others would change", renamed, typed, captured)
	}
}

// faceTexts joins the faces of files.
func faceTexts(files []impl.File) string {
	text := ""
	for _, f := range files {
		text += f.Name + "\n" + impl.FaceOf(files, f.Name)
	}
	return text
}

// selfUse reports whether a file uses itself: a name with this file in front
// stands for nothing there, but no name can become it.
func selfUse(files []impl.File) bool {
	return slices.ContainsFunc(files, func(f impl.File) bool { return slices.Contains(impl.UsesOf(f.Text), f.Name) })
}

// TestCapturedType has a new name that would change types if a function around a use could bind it.
func TestCapturedType(t *testing.T) {
	files := filesOf("A", "x = 1\nf = \\k.(k,x)\ng = \\y.(y,x)")
	for to, want := range map[string]string{"k": "", "y": "", "z": "z : I\nf : (a>(a*I))\ng : (a>(a*I))\n"} {
		out, ok := impl.RenameName(files, "A", "x", to)
		if face := impl.FaceOf(out, "A"); ok != (want != "") || face != want {
			t.Errorf("when x becomes %s, the face is %q, %v", to, face, ok)
		}
	}
}

// TestManyReferences has as many files, and about as many references, as there is room for.
func TestManyReferences(t *testing.T) {
	uses := "x = (((((x,x),(x,x)),((x,x),(x,x))),(((x,x),(x,x)),((x,x),(x,x)))),1)\n"
	text := strings.Repeat(uses, impl.MaxText/len(uses))
	text += strings.Repeat("-", impl.MaxText-len(text))
	other := "use A\n" + strings.Repeat("y = ((A.x,A.x),(A.x,A.x))\n", impl.MaxFileLine-2)
	files := filesOf("B", other, "A", text, "D", other, "C", strings.ReplaceAll(other, "use A", "use B"))
	if !impl.FilesValid(files) {
		t.Fatal("the files are not valid")
	}
	places := impl.ReferencesOf(files, "A", "x")
	if want := strings.Count(text, "x") + 2*strings.Count(other, "x"); len(places) != want {
		t.Errorf("there are %d references, not %d", len(places), want)
	}
	out, ok := impl.RenameName(files, "A", "x", "k")
	want := filesOf("B", strings.ReplaceAll(other, "x", "k"), "A", strings.ReplaceAll(text, "x", "k"), "D", strings.ReplaceAll(other, "x", "k"), "C", files[3].Text)
	if !ok || !slices.Equal(out, want) {
		t.Errorf("RenameName = %q, %v", out, ok)
	}
}

// TestSpotResultsAreNew checks that a change of a result is not seen in another one.
func TestSpotResultsAreNew(t *testing.T) {
	line := "f = \\x.(x,y)"
	files := filesOf("A", "y = 1\n"+line, "B", "use A\nx = A.y", "C", "")
	for range 2 {
		spots, places := impl.SpotsOf(line), impl.ReferencesOf(files, "A", "y")
		out, ok := impl.RenameName(files, "A", "y", "k")
		if spotTexts(spots) != "0 def f, 5 binder x 5, 8 local x 5, 10 use y" || placeTexts(places) != "A0 A16 B12" || !ok || !slices.Equal(out, filesOf("A", "k = 1\nf = \\x.(x,k)", "B", "use A\nx = A.k", "C", "")) {
			t.Fatalf("the results are %s, %s and %q", spotTexts(spots), placeTexts(places), out)
		}
		clear(spots[:cap(spots)])
		clear(places[:cap(places)])
		clear(out[:cap(out)])
		if files[2].Name != "C" || files[0].Text != "y = 1\n"+line {
			t.Fatalf("the files became %q", files)
		}
	}
}

// TestSpotFilesAreKept checks that no function changes its arguments, or memory behind them.
func TestSpotFilesAreKept(t *testing.T) {
	r := rand.New(rand.NewSource(104))
	for range 50 {
		longer := append(randomScopes(r), filesOf("E", "a = 1\nb = a")...)
		before := slices.Clone(longer)
		files := longer[:len(longer)-1]
		for _, f := range longer {
			for _, n := range []int{0, 4, 6, 10, r.Intn(100)} {
				p := impl.Place{File: f.Name, Offset: n}
				impl.SpotAt(files, p)
				impl.DefinitionAt(files, p)
				impl.HoverAt(files, p)
				if f.Name == "E" {
					checkNoSpot(t, files, p)
				}
			}
			for _, name := range []string{"a", "b"} {
				impl.ReferencesOf(files, f.Name, name)
				impl.CanRename(files, f.Name, name, "k")
				if out, ok := impl.RenameName(files, f.Name, name, "k"); ok && len(out) != len(files) {
					t.Errorf("%q: RenameName = %q", files, out)
				}
			}
		}
		if !slices.Equal(longer, before) {
			t.Errorf("the files became %v", longer)
		}
	}
}
