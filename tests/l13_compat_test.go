package tests

import (
	"math/rand"
	"slices"
	"strings"
	"testing"

	"loop.example/livetyper/impl"
)

// faceWords writes changes of the face of a file: a kind and a full name each.
func faceWords(file string, changes []impl.FaceChange) []string {
	kinds := map[int]string{impl.FaceAdded: "added", impl.FaceRemoved: "removed", impl.FaceWider: "wider", impl.FaceOther: "other"}
	var words []string
	for _, c := range changes {
		words = append(words, kinds[c.Kind]+" "+file+"."+c.Name)
	}
	return words
}

// compared writes the changes of the faces of all files of the first list. It
// checks that Compatible says the same.
func compared(t *testing.T, old, now []impl.File) string {
	t.Helper()
	var all []string
	for _, f := range old {
		words := faceWords(f.Name, impl.CompareFaces(old, now, f.Name))
		_, there := impl.FindFile(now, f.Name)
		breaks := slices.ContainsFunc(words, func(word string) bool { return !strings.HasPrefix(word, "added") && !strings.HasPrefix(word, "wider") })
		if got := impl.Compatible(old, now, f.Name); got != (there && !breaks) {
			t.Errorf("%q and %q: Compatible(%s) = %v, although the changes are %v", old, now, f.Name, got, words)
		}
		all = append(all, words...)
	}
	return strings.Join(all, ", ")
}

// faceCase has two lists of files, and the changes from each one to the other one.
type faceCase struct {
	old, now   []impl.File
	want, back string
}

// oneFace is a case of a file A.
func oneFace(old, now, want, back string) faceCase {
	return faceCase{filesOf("A", old), filesOf("A", now), want, back}
}

// checkFaces checks cases, also with the files of one list in another order,
// and one more of them.
func checkFaces(t *testing.T, cases []faceCase) {
	t.Helper()
	for _, c := range cases {
		more := append(filesOf("Z", "use A\nx = A.x\nx : I\ny = 1\n("), c.now...)
		slices.Reverse(more)
		if !impl.FilesValid(c.old) || !impl.FilesValid(c.now) || !impl.FilesValid(more) {
			t.Fatalf("%q or %q is not valid", c.old, more)
		}
		for _, now := range [][]impl.File{c.now, more} {
			if got := compared(t, c.old, now); got != c.want {
				t.Errorf("%q and %q: the changes are %q, not %q", c.old, now, got, c.want)
			}
		}
		if got := compared(t, c.now, c.old); got != c.back {
			t.Errorf("%q and %q: the changes are %q, not %q", c.now, c.old, got, c.back)
		}
		for _, files := range [][]impl.File{c.old, c.now} {
			if got := compared(t, files, slices.Clone(files)); got != "" {
				t.Errorf("%q twice: the changes are %q", files, got)
			}
		}
	}
}

func TestFaceConstants(t *testing.T) {
	kinds := []int{impl.FaceAdded, impl.FaceRemoved, impl.FaceWider, impl.FaceOther}
	if !slices.Equal(kinds, []int{1, 2, 3, 4}) {
		t.Errorf("the constants are %v", kinds)
	}
}

// TestFaceKinds has names that have types in neither list, in one of them, and in both.
func TestFaceKinds(t *testing.T) {
	identity := "f = \\x.x"
	checkFaces(t, []faceCase{
		// One of each kind, as in the document.
		oneFace("f = \\x.(x+1)", identity, "wider A.f", "other A.f"), oneFace("x = 1", "x = 1\ny = 2", "added A.y", "removed A.y"), oneFace("x = 1", "x = (1,1)", "other A.x", "other A.x"),
		oneFace("f = \\x.(x+1)\ng = 1\nh = 2\n", "f = \\x.x\ng = (1,2)\nk = 3\n", "wider A.f, other A.g, removed A.h, added A.k", "other A.f, other A.g, removed A.k, added A.h"),
		// In neither list, whether or not the file defines it, and why ever it has none.
		oneFace("", "", "", ""), oneFace("", "-- x = 1", "", ""), oneFace("x = w", "x = (1 1)", "", ""), oneFace("x = x", "x = w", "", ""), oneFace("x = w", "", "", ""), oneFace("x = w\ny = x", "x = x\ny = x", "", ""), oneFace("x : I", "", "", ""), oneFace("x : I", "x : (I*I)", "", ""), oneFace("x : I", "x = w", "", ""), oneFace("(", "x = 1)", "", ""),
		// In one of them.
		oneFace("x = w", "x = 1", "added A.x", "removed A.x"), oneFace("x : I", "x : I\nx = 1", "added A.x", "removed A.x"), oneFace("x = w", "x : I\nx = w", "added A.x", "removed A.x"), oneFace("-- x = 1", "x = 1", "added A.x", "removed A.x"), oneFace("x = 1)", "x = 1", "added A.x", "removed A.x"), oneFace("x = y\ny = x", "x = 1\ny = x", "added A.x, added A.y", "removed A.x, removed A.y"), oneFace("x = y\ny = x", "x = y\nx : I\ny = x", "added A.x, added A.y", "removed A.x, removed A.y"), oneFace("x = w\nx = 1", "x = 1\nx = w", "added A.x", "removed A.x"), oneFace("y = (x+1)", "y = (x+1)\nx = 1", "added A.y, added A.x", "removed A.y, removed A.x"), oneFace("x = 1\ny = x", "", "removed A.x, removed A.y", "added A.x, added A.y"), oneFace(doubled+"x = e", doubled+"x = (e,1)", "removed A.x", "added A.x"),
		// In both, the same one: another line, another expression, other variables.
		oneFace("x = 1", "x = (2+3)", "", ""), oneFace(identity, "f = \\y.{z=y;z}", "", ""), oneFace("x = 1\ny = (1,1)", "y = (1,1)\n\n-- here\nx = 1", "", ""), oneFace("x = 1", "x = 1\nx = (1,1)\nx = w", "", ""), oneFace("f : (c>c)\n"+identity, identity, "", ""), oneFace("f : (c>c)\n"+identity, identity+"\nf : (z>z)", "", ""), oneFace("x : I\nx = 1", "x = 1\nx : I\nx : (I*I)", "", ""), oneFace("x : I\nx = w", "x = 1", "", ""), oneFace("x : I\nx = w", "x : I\nx = (1 1)", "", ""), oneFace("use B\nx = 1", "x = 1\n(", "", ""),
		// In both, other ones: by a signature that is there, or is put in front.
		oneFace(identity, "f : (I>I)\n"+identity, "other A.f", "wider A.f"), oneFace(identity, identity+"\nf : (I>I)", "other A.f", "wider A.f"), oneFace("f : (a>a)\n"+identity, "f : (I>I)\nf : (a>a)\n"+identity, "other A.f", "wider A.f"), oneFace("f : (a>a)\n"+identity, "f : (a>a)\nf : (I>I)\n"+identity, "", ""), oneFace(identity, "f : I\n"+identity, "other A.f", "other A.f"), oneFace(identity, "f : a\n"+identity, "wider A.f", "other A.f"), oneFace("x = 1", "x : (I*I)\nx = 1", "other A.x", "other A.x"),
		// By a definition that is put in front, and by what is needed.
		oneFace("x = 1", "x = (1,1)\nx = 1", "other A.x", "other A.x"), oneFace("f = \\x.(x+1)", identity+"\nf = \\x.(x+1)", "wider A.f", "other A.f"), oneFace("x = 1\ny = (x,x)\nz = ^y", "x = (1,1)\ny = (x,x)\nz = 1", "other A.x, other A.y", "other A.x, other A.y"), oneFace("f = \\x.(x+1)\ng = f\nh = (f 1)", identity+"\ng = f\nh = (f 1)", "wider A.f, wider A.g", "other A.f, other A.g"), oneFace("x = 1\nx : I\ny = x", "x = (1,1)\nx : I\ny = x", "", ""),
	})
}

// TestFaceTypes has names with two types, of which one can be an instance of the other one.
func TestFaceTypes(t *testing.T) {
	deep, wide := rawText(chain(impl.MaxTypeDepth)), rawText(full(6, number))
	words := map[string]string{"": "", "wider": "wider A.f", "other": "other A.f"}
	for _, c := range []struct{ before, after, want, back string }{
		// Each one is an instance of the other one.
		{"a", "z", "", ""}, {"(a>b)", "(b>a)", "", ""}, {"(a*b)", "(y*c)", "", ""}, {"(a>(b>a))", "(b>(a>b))", "", ""}, {"(c>(d*c))", "(d>(c*d))", "", ""}, {"I", "I", "", ""}, {wide, wide, "", ""}, {deep, deep, "", ""},
		// Only the first of the second one, and the other way round.
		{"I", "a", "wider", "other"}, {"(a>a)", "(a>b)", "wider", "other"}, {"(I>I)", "(b>b)", "wider", "other"}, {"(I>I)", "a", "wider", "other"}, {"(a*a)", "(a*b)", "wider", "other"}, {"(a>I)", "(b>a)", "wider", "other"}, {"(a>(b>a))", "(c>(a>b))", "wider", "other"}, {"((I*I)*(I*I))", "(a*a)", "wider", "other"}, {"((a*b)*(a*b))", "(c*c)", "wider", "other"}, {"((a>b)>(c*d))", "(a>b)", "wider", "other"}, {"(a>(b*a))", "(a>b)", "wider", "other"}, {"(b>(a*b))", "(a>b)", "wider", "other"}, {wide, "a", "wider", "other"}, {wide, "(a*a)", "wider", "other"}, {wide, "(a*(b*c))", "wider", "other"}, {deep, "x", "wider", "other"}, {deep, "(a*b)", "wider", "other"},
		// Neither.
		{"I", "(I>I)", "other", "other"}, {"(I>I)", "(I*I)", "other", "other"}, {"(a>a)", "(a*a)", "other", "other"}, {"(I*a)", "(a*I)", "other", "other"}, {"(I>a)", "(a>a)", "other", "other"}, {"(a>(b>a))", "(a>(b>b))", "other", "other"}, {"((I*a)*(a*I))", "(b*b)", "other", "other"}, {"((a*b)*(b*a))", "(c*c)", "other", "other"}, {"((a*b)>c)", "(a>(b*c))", "other", "other"}, {"(a*(I*I))", "(b*(I*(I*I)))", "other", "other"}, {wide, "(a*(b>c))", "other", "other"}, {wide, "(a*(a*b))", "other", "other"}, {deep, "(a>b)", "other", "other"},
	} {
		old, now := "f : "+c.before+"\nf = f", "f : "+c.after+"\nf = f"
		checkFaces(t, []faceCase{oneFace(old, now, words[c.want], words[c.back])})
	}
}

// TestFaceOrder has names in the order of the first list, and then those that
// only the second list has.
func TestFaceOrder(t *testing.T) {
	letters, pairs := "", ""
	var removed, changed []string
	for c := 'z'; c >= 'a'; c-- {
		letters += string(c) + " = 1\n"
		pairs += string('z'-c+'a') + " = (1,1)\n"
		removed = append(removed, "removed A."+string(c))
		changed = append(changed, "other A."+string(c))
	}
	sorted := slices.Sorted(slices.Values(changed))
	checkFaces(t, []faceCase{
		oneFace("c = 1\na = 1\nb = 1", "d = 1\nb = (1,1)\ne = 1\na = (1,1)", "removed A.c, other A.a, other A.b, added A.d, added A.e", "removed A.d, other A.b, removed A.e, other A.a, added A.c"),
		// Names that the first list has without a type are among its names.
		oneFace("b = w\na = 1", "c = 1\na = (1,1)\nb = 1", "added A.b, other A.a, added A.c", "removed A.c, other A.a, removed A.b"), oneFace("z = w\ny = 1\nx = w", "a = 1\nx = 1\nz = 1", "added A.z, removed A.y, added A.x, added A.a", "removed A.a, removed A.x, removed A.z, added A.y"),
		// The first line with a name counts, and signatures do not.
		oneFace("b = 1\na = 1\nb = 2", "", "removed A.b, removed A.a", "added A.b, added A.a"), oneFace("a : I\nb : I\nb = 1\na = 1", "", "removed A.b, removed A.a", "added A.b, added A.a"), oneFace("b = w\na = 1\nc = 1", "a : (I*I)\nb : I\nc : a\nc = 1\nb = w\na = 1", "added A.b, other A.a, wider A.c", "other A.c, removed A.b, other A.a"),
		// What has not changed is left out.
		oneFace("a = 1\nb = 1\nc = 1\nd = w", "d = w\nc = 1\nb = (1,1)\na = 1\ne = w", "other A.b", "other A.b"),
		// As many names as there are.
		oneFace(letters, "-- nothing", strings.Join(removed, ", "), strings.ReplaceAll(strings.Join(removed, ", "), "removed", "added")), oneFace(letters, pairs, strings.Join(changed, ", "), strings.Join(sorted, ", ")), oneFace(letters, letters, "", ""),
	})
}

// TestFacesOfFiles has changes that are seen in other files.
func TestFacesOfFiles(t *testing.T) {
	user := "use A\ny = A.x\nz = 1\nv = (y,z)"
	checkFaces(t, []faceCase{
		// A name that is removed from a file and added in another one.
		{filesOf("A", "x = 1", "B", ""), filesOf("A", "", "B", "x = 1"), "removed A.x, added B.x", "added A.x, removed B.x"},
		{filesOf("A", "x = 1", "B", user), filesOf("A", "", "B", user+"\nx = 1"), "removed A.x, removed B.y, removed B.v, added B.x", "added A.x, added B.y, added B.v, removed B.x"},
		// A name that loses its type, or gets another one, since one in another file does.
		{filesOf("A", "x = 1", "B", user), filesOf("A", "x = (1 1)", "B", user), "removed A.x, removed B.y, removed B.v", "added A.x, added B.y, added B.v"},
		{filesOf("A", "x = 1", "B", user), filesOf("A", "x = (1,1)", "B", user), "other A.x, other B.y, other B.v", "other A.x, other B.y, other B.v"},
		{filesOf("B", user, "A", "x = 1"), filesOf("A", "x : a\nx = 1", "B", user), "wider B.y, wider B.v, wider A.x", "other A.x, other B.y, other B.v"},
		{filesOf("A", "x = 1", "B", user), filesOf("A", "x = (2+3)\n\n", "B", user), "", ""},
		{filesOf("A", "x = 1", "B", user), filesOf("A", "x = 1", "B", user[len("use A\n"):]), "removed B.y, removed B.v", "added B.y, added B.v"},
		{filesOf("A", "x = B.x", "B", "use C\nx = C.x", "C", "x = 1"), filesOf("A", "use B\nx = B.x", "B", "use C\nx = C.x", "C", "x = \\n.n"), "added A.x, other B.x, other C.x", "removed A.x, other B.x, other C.x"},
		{filesOf("A", "use B\nx = B.x", "B", "use A\nx = A.x"), filesOf("A", "use B\nx = B.x\nx : I", "B", "use A\nx = A.x"), "added A.x, added B.x", "removed A.x, removed B.x"},
		// A file that uses itself.
		{filesOf("A", "use A\nx = 1\ny = A.x"), filesOf("A", "use A\nx = (1,1)\ny = x"), "other A.x, added A.y", "other A.x, removed A.y"},
		// A file that only one of the lists has: nothing is said of its names.
		{filesOf("A", "x = 1", "B", user), filesOf("A", "x = (1,1)"), "other A.x", "other A.x"}, {filesOf("A", "x = 1", "B", user), filesOf("B", user), "removed B.y, removed B.v", "added B.y, added B.v"}, {filesOf("A", "x = 1"), filesOf("B", "x = (1,1)"), "", ""}, {filesOf("A", "x = 1"), nil, "", ""}, {nil, nil, "", ""},
		// Files in another order, of which each one has a change of its own.
		{filesOf("A", "x = 1", "B", "x = 1", "C", "x = 1"), filesOf("C", "x = 2", "B", "x = \\n.n", "A", "y = 1"), "removed A.x, added A.y, other B.x", "other B.x, removed A.y, added A.x"},
	})
	old, now := longWays("1"), longWays("(1 1)")
	if got := compared(t, old, now); strings.Count(got, "removed") != 104 || compared(t, now, old) != strings.ReplaceAll(got, "removed", "added") || compared(t, old, old) != "" {
		t.Errorf("the changes of long ways are %q", got)
	}
}

// checkNoFaces checks that there are no changes, and that nothing is compatible.
func checkNoFaces(t *testing.T, old, now []impl.File, name string) {
	t.Helper()
	if got := impl.CompareFaces(old, now, name); len(got) != 0 {
		t.Errorf("%.50q and %.50q: CompareFaces(%q) = %v", old, now, name, got)
	}
	if impl.Compatible(old, now, name) {
		t.Errorf("%.50q and %.50q: Compatible(%q) = true", old, now, name)
	}
}

// TestNoFaces has lists of files that are not valid, and files that do not exist.
func TestNoFaces(t *testing.T) {
	good := filesOf("A", "x = 1\ny = w", "B", "use A\nx = A.x")
	other := filesOf("B", "x = (1,1)", "A", "x = \\n.n\ny = 1\nz = 2")
	lists := append(invalidFiles(), filesOf("A", "x = 1", "A", "x = 1"), filesOf("A", "x = 1", "B", "", "C", "", "D", "", "E", ""), filesOf("A", spareLines(41)), filesOf("A", "x = 1\n-- \x7f"), filesOf("A", "x = 1", "B", longest+"-"))
	for i, bad := range lists {
		for _, name := range []string{"A", "B", bad[0].Name, bad[len(bad)-1].Name} {
			checkNoFaces(t, good, bad, name)
			checkNoFaces(t, bad, good, name)
			checkNoFaces(t, bad, bad, name)
			checkNoFaces(t, lists[(i+7)%len(lists)], bad, name)
		}
	}
	for _, name := range append(badFileNames(), "C", "Z", "x", "A.x", "\xff") {
		checkNoFaces(t, good, other, name)
		checkNoFaces(t, good, good, name)
	}
	for _, name := range []string{"A", "B", ""} {
		checkNoFaces(t, nil, nil, name)
		checkNoFaces(t, []impl.File{}, nil, name)
		checkNoFaces(t, good, nil, name)
		checkNoFaces(t, nil, good, name)
	}
	checkNoFaces(t, good, filesOf("B", "x = 1"), "A")
	checkNoFaces(t, filesOf("B", "x = 1"), good, "A")
	if !impl.Compatible(good, good, "A") || impl.Compatible(good, other, "A") || !impl.Compatible(filesOf("A", ""), good, "A") {
		t.Error("Compatible of valid files is wrong")
	}
}

// withText returns files in which a file has another text.
func withText(files []impl.File, name, text string) []impl.File {
	files = slices.Clone(files)
	for i := range files {
		if files[i].Name == name {
			files[i].Text = text
		}
	}
	return files
}

// checkText checks that a function returns files with another text for one of them.
func checkText(t *testing.T, what string, files []impl.File, name, text string, out []impl.File, ok bool) {
	t.Helper()
	if want := withText(files, name, text); !ok || !slices.Equal(out, want) || !impl.FilesValid(out) {
		t.Errorf("%s of %s in %.300q = %.300q, %v, not %.300q", what, name, files, out, ok, want)
	}
}

// checkNoText checks that a function returns no files.
func checkNoText(t *testing.T, what string, files []impl.File, name string, out []impl.File, ok bool) {
	t.Helper()
	if ok || len(out) != 0 {
		t.Errorf("%s of %.20q in %.100q = %.100q, %v", what, name, files, out, ok)
	}
}

func TestReplaceFile(t *testing.T) {
	bytes := func(count int) string { return "x = 1\n" + strings.Repeat("-", count-6) }
	good := append(goodFileTexts(), "x = 1\ny = 2", spareLines(1), spareLines(40), bytes(7), bytes(1999), bytes(2000), strings.Repeat("\n", 39), "use A", "use C")
	bad := append(badFileTexts(), spareLines(41), bytes(2001), bytes(5000), strings.Repeat("\n", 40), "\x00", "\x1f", "\x7f", "\x80", "x = 1\r", "\xc3\xa9")
	for _, files := range [][]impl.File{
		filesOf("A", ""), filesOf("A", "x = 1"), filesOf("B", "use A\ny = A.x", "A", "x = 1\n(", "C", ""), filesOf("D", spareLines(40), "C", "use D", "A", longest[:300], "B", strings.Repeat("\n", 39)), filesOf("A", bytes(2000), "B", bytes(2000)),
	} {
		if !impl.FilesValid(files) {
			t.Fatalf("%q is not valid", files)
		}
		for _, f := range files {
			for _, text := range append(good, f.Text) {
				out, ok := impl.ReplaceFile(files, f.Name, text)
				checkText(t, "ReplaceFile", files, f.Name, text, out, ok)
			}
			for _, text := range bad {
				out, ok := impl.ReplaceFile(files, f.Name, text)
				checkNoText(t, "ReplaceFile", files, f.Name, out, ok)
			}
		}
		for _, name := range append(badFileNames(), "E", "Z", "x", "A.x", "\xff") {
			for _, text := range []string{"", "x = 1", "\xff"} {
				out, ok := impl.ReplaceFile(files, name, text)
				checkNoText(t, "ReplaceFile", files, name, out, ok)
			}
		}
	}
}

// noFiles are lists without files, and lists that are not valid: some of them
// would be valid with another text of one file.
func noFiles() [][]impl.File {
	text := "x = 1\ny : I\ny = 1"
	return append(invalidFiles(), nil, []impl.File{}, filesOf("A", text, "A", text), filesOf("A", text, "B", "", "C", "", "D", "", "E", ""), filesOf("A", text+spareLines(39)), filesOf("A", text+"\t"), filesOf("A", text, "B", longest+"-"), filesOf("A", text, "a", text), filesOf("A", text, "", text))
}

// TestNoFilesReplaced checks that in lists that are not valid, no text is replaced.
func TestNoFilesReplaced(t *testing.T) {
	for _, files := range noFiles() {
		names := []string{"A", "B", "Q", "", "x"}
		for _, f := range files[:min(5, len(files))] {
			names = append(names, f.Name)
		}
		for _, name := range names {
			for _, text := range []string{"", "x = 1", "y : I"} {
				out, ok := impl.ReplaceFile(files, name, text)
				checkNoText(t, "ReplaceFile", files, name, out, ok)
			}
			out, ok := impl.SignFile(files, name)
			checkNoText(t, "SignFile", files, name, out, ok)
			for _, value := range []string{"x", "y", "u", ""} {
				out, ok := impl.UnsignName(files, name, value)
				checkNoText(t, "UnsignName", files, name, out, ok)
			}
		}
	}
}

// signCase has files, one of them, and the signatures that are put in front of it.
type signCase struct {
	files []impl.File
	file  string
	front string
}

// oneSign is a case of a file A, with signatures that are separated by commas.
func oneSign(text, sigs string) signCase {
	front := ""
	if sigs != "" {
		front = strings.ReplaceAll(sigs, ",", "\n") + "\n"
	}
	return signCase{filesOf("A", text), "A", front}
}

// checkSign checks a case, also beside other files; and that what is signed
// stays as it is when it is signed again.
func checkSign(t *testing.T, c signCase) {
	t.Helper()
	more := append(filesOf("Z", "use A\nx = A.x\nz = 1", "Y", "y = 1\n("), c.files...)
	slices.Reverse(more)
	for _, files := range [][]impl.File{c.files, more[:min(len(more), impl.MaxFiles)]} {
		text, ok := impl.FindFile(files, c.file)
		if !ok {
			t.Fatalf("there is no %s in %q", c.file, files)
		}
		out, ok := impl.SignFile(files, c.file)
		checkText(t, "SignFile", files, c.file, c.front+text, out, ok)
		again, ok := impl.SignFile(out, c.file)
		checkText(t, "SignFile", out, c.file, c.front+text, again, ok)
		checkSameNames(t, files, out, c.file, strings.Count(c.front, "\n"))
	}
}

// checkSameNames checks promise 13: when a file has got or lost lines in front
// that say what inference finds, no type, code or fault changes.
func checkSameNames(t *testing.T, files, signed []impl.File, file string, lines int) {
	t.Helper()
	for _, full := range append(impl.AllNames(files), "A.q", "Q.q") {
		before, after := nameAnswer(files, full[:1], full[2:]), nameAnswer(signed, full[:1], full[2:])
		if before != after {
			t.Errorf("%q and %q: %s becomes %s instead of %s", files, signed, full, after, before)
		}
	}
	for _, f := range files {
		before, after := impl.FaultsOf(files, f.Name), impl.FaultsOf(signed, f.Name)
		for i := range before {
			if f.Name == file {
				before[i].Line += lines
			}
		}
		if !slices.Equal(before, after) {
			t.Errorf("%q and %q: the faults become %v instead of %v", files, signed, after, before)
		}
	}
	if a, b := compared(t, files, signed), compared(t, signed, files); a != "" || b != "" || faceTexts(files) != faceTexts(signed) {
		t.Errorf("%q and %q: the changes are %q and %q", files, signed, a, b)
	}
}

func TestSignFile(t *testing.T) {
	for _, c := range []signCase{
		oneSign("f = \\x.(x+1)\ng = 1\nh = 2\n", "f : (I>I),g : I,h : I"), oneSign("x = 1", "x : I"), oneSign("\nx = 1\n\n", "x : I"), oneSign("k = \\x.\\y.x", "k : (a>(b>a))"), oneSign("p = (\\x.x,(1,\\y.\\z.(z,y)))", "p : ((a>a)*(I*(b>(c>(c*b)))))"),
		// In the order of the names, not of letters or of signatures.
		oneSign("c = 1\na = (1,1)\nb = \\x.x\na = 5", "c : I,a : (I*I),b : (a>a)"), oneSign("z = y\ny = x\nx = 1", "z : I,y : I,x : I"), oneSign("c = 1\nb : I\nb = 1\na = 1", "c : I,a : I"),
		// Files without names, and with names that are signed.
		oneSign("", ""), oneSign("\n\n", ""), oneSign("-- x = 1\n(\nuse Q", ""), oneSign("x : I\ny : a", ""), oneSign("x : I\nx = 1", ""), oneSign("x = 1\nx : I", ""), oneSign("x : I\nx = 1\ny : (I*I)\ny = (x,x)", ""), oneSign("x : (I*I)\nx = 1", ""), oneSign("f : (I>I)\nf = \\x.x", ""), oneSign("x : I\nx = w", ""), oneSign("x : I\nx = x", ""),
		// Names without types.
		oneSign("x = w\ny = 1", "y : I"), oneSign("x = w\ny = x\nz = 2", "z : I"), oneSign("x = (1 1)\ny = (x+1)", ""), oneSign("x = y\ny = x\nz = x\nv = 1", "v : I"), oneSign("x = x", ""), oneSign("x : I\nx = y\ny = x", "y : I"), oneSign("f : (I>I)\nf = \\n.(g n)\ng = \\n.?<n,(f (n+99)),0>", "g : (I>I)"), oneSign("x : I\nx = w\ny = x", "y : I"), oneSign("y = A.x\nx = 1", "x : I"), oneSign("y = B.x\nx = 1", "x : I"),
		// Names with two definitions, or with two signatures.
		oneSign("x = 1\nx = (1,1)", "x : I"), oneSign("x = (1,1)\ny = x\nx = 1", "x : (I*I),y : (I*I)"), oneSign("x = w\nx = 1", ""), oneSign("x : I\nx : (I*I)\nx = 1", ""), oneSign("x = 1\nx : (I*I)\nx : I\ny = x", "y : (I*I)"),
		// Signatures of other names.
		oneSign("u : I\nx = 1", "x : I"), oneSign("y : I\nx = 1\ny = 2", "x : I"), oneSign("x = 1\nu : (I*I)\ny = (x,x)", "x : I,y : (I*I)"),
		// Lines that look like a signature.
		oneSign("-- x : I\nx = 1", "x : I"), oneSign("--x : I\nx = 1", "x : I"), oneSign("x : J\nx = 1", "x : I"), oneSign("x : I)\nx = 1", "x : I"), oneSign("x : (I>I\nx = 1", "x : I"), oneSign(" x : I\nx = 1", "x : I"), oneSign("x : I \nx = 1", "x : I"), oneSign("x: I\nx = 1", "x : I"), oneSign("x :I\nx = 1", "x : I"), oneSign("x : \nx = 1", "x : I"), oneSign("X : I\nx = 1", "x : I"), oneSign("xx : I\nx = 1", "x : I"), oneSign("A.x : I\nx = 1", "x : I"), oneSign("x : (I,I)\nx = 1", "x : I"), oneSign("x = 1\n-- x : (I*I)", "x : I"),
		// A file that uses others, is used by others, or uses itself.
		{filesOf("A", "use B\nx = B.y\nz = B.q", "B", "y = (1,2)"), "A", "x : (I*I)\n"}, {filesOf("A", "use B\nx = B.y\nz = B.q", "B", "y = (1,2)"), "B", "y : (I*I)\n"}, {filesOf("A", "x = B.y", "B", "y = 1"), "A", ""}, {filesOf("B", "use A\nuse A\nx = 1\nz = (A.x,x)", "A", "use B\nx = \\n.n\nv = B.x"), "A", "x : (a>a)\nv : I\n"}, {filesOf("B", "use A\nuse A\nx = 1\nz = (A.x,x)", "A", "use B\nx = \\n.n\nv = B.x"), "B", "x : I\nz : ((a>a)*I)\n"}, {filesOf("A", "use A\nx = 1\ny = A.x\nz = x"), "A", "x : I\nz : I\n"}, {filesOf("A", "use B\nx = B.x\ny = B.y", "B", "use A\nx = A.x\ny = 1"), "A", "y : I\n"}, {filesOf("A", "use B\nx = B.x", "B", "x : (c>c)\nx = x", "C", "x = 1", "D", ""), "A", "x : (a>a)\n"},
	} {
		checkSign(t, c)
	}
}

// TestSignLargeTypes has types that are as large as they may be, or larger.
func TestSignLargeTypes(t *testing.T) {
	sigs := "a : (I*I)"
	for depth := 3; depth <= 6; depth++ {
		sigs += "," + string(rune('a'+depth-2)) + " : " + rawText(full(depth, number))
	}
	checkSign(t, oneSign(doubled+"g = f\nh = ^(1,e)", sigs))
	sigs = "a : (a>I)"
	for depth := 3; depth <= impl.MaxTypeDepth; depth++ {
		text := strings.Repeat("(a>", depth-1) + "I" + strings.Repeat(")", depth-1)
		sigs += "," + string(rune('a'+depth-2)) + " : " + differentVars(text)
	}
	checkSign(t, oneSign(functions()+"q = p", sigs))
	pairs := rawText(sized(2*26-1, variable(0)))
	some := "v : " + differentVars(pairs) + "\nv = v\n"
	checkSign(t, oneSign(some+"x = v\ny = (v,1)\nz = (v,v)", "x : "+differentVars(pairs)+",y : ("+differentVars(pairs)+"*I)"))
}

// TestSignLimits has files that are full, or nearly full, in lines or in bytes.
func TestSignLimits(t *testing.T) {
	bytes := func(text string, count int) string {
		return text + "\n" + strings.Repeat("-", count-len(text)-1)
	}
	letters := func(count int) (text, sigs string) {
		for c := 'a'; c < 'a'+rune(count); c++ {
			text, sigs = text+"\n"+string(c)+" = 1", sigs+","+string(c)+" : I"
		}
		return text[1:], sigs[1:]
	}
	twenty, sigs := letters(20)
	for _, c := range []signCase{
		oneSign(spareLines(1), "x : I"), oneSign(spareLines(39), "x : I"), oneSign(twenty, sigs), oneSign(bytes("x = 1", 1994), "x : I"), oneSign(bytes("x = (1,1)", 1990), "x : (I*I)"), oneSign(bytes("x = (1,1)\ny = 1", 1984), "x : (I*I),y : I"),
		// Full, but with nothing to be signed.
		oneSign("x : I\n"+spareLines(39), ""), oneSign(spareLines(39)+"\nx : I", ""), oneSign(strings.Repeat("\n", 39), ""), oneSign(spareLines(38)+"\nx : I\ny = w", ""), oneSign(bytes("x : I\nx = 1", 2000), ""), oneSign(bytes("x = w", 2000), ""), oneSign(bytes("--", 2000), ""),
	} {
		checkSign(t, c)
	}
	many, _ := letters(26)
	for _, text := range []string{
		spareLines(40), twenty + "\n", "\n" + twenty, many, spareLines(39) + "\ny = 1", spareLines(38) + "\ny = 1", "x : I\n" + spareLines(38) + "\ny = 1",
		bytes("x = 1", 1995), bytes("x = 1", 1999), bytes("x = 1", 2000), bytes("x = (1,1)", 1991), bytes("x = (1,1)\ny = 1", 1985), bytes("x = 1\ny : I\ny = 1", 1995),
	} {
		for _, files := range [][]impl.File{filesOf("A", text), filesOf("B", "use A\ny = 1", "A", text, "C", "")} {
			if !impl.FilesValid(files) {
				t.Fatalf("%q is not valid", files)
			}
			out, ok := impl.SignFile(files, "A")
			checkNoText(t, "SignFile", files, "A", out, ok)
		}
	}
}

// unsignCase has a text, a name, and the text without the signatures of the name.
type unsignCase struct{ text, name, want string }

func TestUnsignName(t *testing.T) {
	wide := strings.Repeat("-", impl.MaxText-len("x : I\n"))
	for _, c := range []unsignCase{
		// The first line, the last one, the only one, another one, each one.
		{"x : I\nx = 1", "x", "\nx = 1"}, {"x = 1\nx : I", "x", "x = 1"}, {"x : I", "x", ""}, {"x = 1\nx : I\ny = 2", "x", "x = 1\ny = 2"}, {"x : I\nx : I", "x", ""}, {"x : I\nx : (I*I)\nx : a", "x", ""}, {"x : I\nx : a\nx = 1", "x", "\nx = 1"}, {"x = 1\nx : I\nx : a", "x", "x = 1"}, {"x : I\nx = 1\nx : I", "x", "\nx = 1"}, {"x : I\ny = 1\nx : I\ny : I\nx : I\nx = 2", "x", "\ny = 1\ny : I\nx = 2"},
		// Lines that are empty stay.
		{"x : I\n", "x", "\n"}, {"\nx : I", "x", ""}, {"\nx : I\n", "x", "\n"}, {"\n\nx : I", "x", "\n"}, {"x : I\n\n", "x", "\n\n"}, {"x : I\nx : I\n", "x", "\n"}, {"x = 1\n\nx : I\n\ny = 2\n", "x", "x = 1\n\n\ny = 2\n"}, {"x : I\n\nx : I\n\nx : I", "x", "\n\n"},
		// Signatures of other names stay.
		{"y : I\nx : I\ny = 1\nx = 2", "x", "y : I\ny = 1\nx = 2"}, {"y : I\nx : I\ny = 1\nx = 2", "y", "\nx : I\ny = 1\nx = 2"}, {"a : I\nz : I\na = z", "z", "a : I\na = z"}, {"u : I\nx = 1", "u", "\nx = 1"}, {"f : (I>I)\ng : I\nh : I\nf = \\x.(x+1)\n", "g", "f : (I>I)\nh : I\nf = \\x.(x+1)\n"},
		// Whatever the type.
		{"x = 1\nx : (c>d)", "x", "x = 1"}, {"x : " + rawText(full(6, number)) + "\nx = w", "x", "\nx = w"}, {"x : " + rawText(chain(16)), "x", ""},
		// Lines that look like one stay, and lines that cannot be read are not changed.
		{"-- x : I\nx : I\nx : J\n x : I\nx : I \nx: I\n--x : I", "x", "-- x : I\nx : J\n x : I\nx : I \nx: I\n--x : I"}, {"use B\n  (\nx : I\n)  ", "x", "use B\n  (\n)  "}, {"x = {x=1;x}\nx : I\nx : (I", "x", "x = {x=1;x}\nx : (I"},
		// As many lines or bytes as there are.
		{"x : I\n" + wide, "x", "\n" + wide}, {wide + "\nx : I", "x", wide}, {strings.Repeat("\n", 38) + "\nx : I", "x", strings.Repeat("\n", 38)}, {strings.Repeat("x : I\n", 39) + "x : I", "x", ""}, {strings.Repeat("x : I\n", 39) + "x = 1", "x", "\nx = 1"}, {"x : I\n" + spareLines(39), "x", "\n" + spareLines(39)},
	} {
		for _, files := range [][]impl.File{filesOf("A", c.text), filesOf("B", "use A\nx : I\ny : I\nx = A.x", "A", c.text, "C", "x : I"), filesOf("C", "", "B", "use A", "D", c.text, "A", c.text)} {
			out, ok := impl.UnsignName(files, "A", c.name)
			checkText(t, "UnsignName", files, "A", c.want, out, ok)
			again, ok := impl.UnsignName(out, "A", c.name)
			checkNoText(t, "UnsignName", out, "A", again, ok)
		}
	}
	// A file that uses itself.
	files := filesOf("A", "use A\nx : I\nx = A.x")
	out, ok := impl.UnsignName(files, "A", "x")
	checkText(t, "UnsignName", files, "A", "use A\nx = A.x", out, ok)
}

// TestNothingToUnsign has names without signatures, and strings that are no names.
func TestNothingToUnsign(t *testing.T) {
	for _, c := range []unsignCase{
		{"x = 1", "x", ""}, {"", "x", ""}, {"\n", "", ""}, {"-- x : I\nx = 1", "x", ""}, {"x : J\nx = 1", "x", ""}, {"x : I)", "x", ""}, {" x : I", "x", ""}, {"x : I ", "x", ""}, {"x: I", "x", ""}, {"x : (I>I", "x", ""}, {"xx : I", "x", ""}, {"A.x : I", "x", ""}, {"A : I", "A", ""}, {"use A", "A", ""}, {"y : I\nx = y", "x", ""}, {"x = {y=1;y}\nx : I", "y", ""},
	} {
		for _, files := range [][]impl.File{filesOf("A", c.text), filesOf("B", "use A\nx : I\ny : I\nx = A.x", "A", c.text)} {
			out, ok := impl.UnsignName(files, "A", c.name)
			checkNoText(t, "UnsignName", files, "A", out, ok)
		}
	}
	files := filesOf("A", "use B\nx : I\nx = 1\n-- a : I\n(", "B", "y : I\ny = 1")
	for _, name := range append(badValueNames(), "y", "z", "B", "A.x", "B.y", "x ", " x", "xx", ".x", "x.", "x : I", "-", "(", "\n", "\xff") {
		out, ok := impl.UnsignName(files, "A", name)
		checkNoText(t, "UnsignName", files, "A", out, ok)
	}
	for _, file := range append(badFileNames(), "C", "Q", "x", "AB", "\xff") {
		for _, name := range []string{"x", "y", "", "A.x"} {
			out, ok := impl.UnsignName(files, file, name)
			checkNoText(t, "UnsignName", files, file, out, ok)
		}
		out, ok := impl.SignFile(files, file)
		checkNoText(t, "SignFile", files, file, out, ok)
	}
}

// hasType returns the type of a full name, if the name is defined and has one.
func (p *plainNames) hasType(full string) (impl.Type, bool) {
	_, defined := p.defs[full]
	x, code, _ := p.typeOf(full)
	return x, defined && code == impl.NameOk
}

// plainFaces follows the chapter line by line, for two lists that have the file.
func plainFaces(old, now *plainNames, file string) []impl.FaceChange {
	names := impl.NamesOf(old.texts[file])
	for _, name := range impl.NamesOf(now.texts[file]) {
		if _, ok := old.defs[file+"."+name]; !ok {
			names = append(names, name)
		}
	}
	var list []impl.FaceChange
	for _, name := range names {
		x, had := old.hasType(file + "." + name)
		y, has := now.hasType(file + "." + name)
		kind := 0
		switch {
		case !had && has:
			kind = impl.FaceAdded
		case had && !has:
			kind = impl.FaceRemoved
		case had && rawText(x) != rawText(y) && impl.InstanceOf(x, y):
			kind = impl.FaceWider
		case had && rawText(x) != rawText(y):
			kind = impl.FaceOther
		}
		if kind != 0 {
			list = append(list, impl.FaceChange{Name: name, Kind: kind})
		}
	}
	return list
}

// plainSigned returns a text with signatures in front, and how many.
func plainSigned(p *plainNames, file string) (string, int) {
	front := ""
	for _, name := range impl.NamesOf(p.texts[file]) {
		if x, ok := p.hasType(file + "." + name); ok && !p.signed(file+"."+name) {
			front += name + " : " + rawText(x) + "\n"
		}
	}
	return front + p.texts[file], strings.Count(front, "\n")
}

// plainUnsigned returns a text without the signatures of a name, and how many.
func plainUnsigned(text, name string) (string, int) {
	rest, count, between := "", 0, ""
	for _, line := range strings.Split(text, "\n") {
		sig, ok := strings.CutPrefix(line, name+" : ")
		if _, valid := impl.ParseType(sig); ok && valid && name != "" && strings.Contains(valueLetters, name) {
			count++
		} else {
			rest += between + line
		}
		between = "\n"
	}
	return rest, count
}

// plainTextOfFile follows chapters 1 and 5.
func plainTextOfFile(text string) bool {
	return plainText(text) && strings.Count(text, "\n") < 40
}

// faceCount says how much was found in the files that were compared.
type faceCount struct {
	kinds                           map[int]int
	same, fits, breaks              int
	signed, full, unsigned, without int
}

// checkKinds checks that there are at least as many changes of each kind.
func (c faceCount) checkKinds(t *testing.T, least int) {
	t.Helper()
	for kind := impl.FaceAdded; kind <= impl.FaceOther; kind++ {
		if c.kinds[kind] < least {
			t.Errorf("only %d changes are of the kind %d", c.kinds[kind], kind)
		}
	}
}

// compareFaces compares the changes of all files of two lists with the plain ones.
func compareFaces(t *testing.T, old, now []impl.File, p, q *plainNames, count *faceCount) {
	t.Helper()
	for _, f := range append(filesOf("Q", ""), old...) {
		var want []impl.FaceChange
		_, here := p.texts[f.Name]
		_, there := q.texts[f.Name]
		if here && there {
			want = plainFaces(p, q, f.Name)
		}
		got := impl.CompareFaces(old, now, f.Name)
		if !slices.Equal(got, want) {
			t.Fatalf("%q and %q: the changes of %s are %v, not %v", old, now, f.Name, got, want)
		}
		fits := here && there
		for _, c := range want {
			fits = fits && c.Kind != impl.FaceRemoved && c.Kind != impl.FaceOther
			count.kinds[c.Kind]++
		}
		if impl.Compatible(old, now, f.Name) != fits {
			t.Fatalf("%q and %q: Compatible(%s) = %v", old, now, f.Name, !fits)
		}
		switch {
		case fits && len(want) == 0:
			count.same++
		case fits:
			count.fits++
		default:
			count.breaks++
		}
	}
}

// compareSigned compares what becomes of each file, when it is signed and when
// a name is not signed any more, with the plain texts.
func compareSigned(t *testing.T, files []impl.File, p *plainNames, count *faceCount) {
	t.Helper()
	for _, f := range files {
		text, sigs := plainSigned(p, f.Name)
		out, ok := impl.SignFile(files, f.Name)
		if plainTextOfFile(text) {
			checkText(t, "SignFile", files, f.Name, text, out, ok)
			count.signed += sigs
		} else {
			checkNoText(t, "SignFile", files, f.Name, out, ok)
			count.full++
		}
		for _, name := range []string{"a", "b", "c", "x", "y", "z", "A", ""} {
			text, sigs := plainUnsigned(f.Text, name)
			out, ok := impl.UnsignName(files, f.Name, name)
			if sigs > 0 {
				checkText(t, "UnsignName", files, f.Name, text, out, ok)
				count.unsigned++
			} else {
				checkNoText(t, "UnsignName", files, f.Name, out, ok)
				count.without++
			}
		}
	}
	if t.Failed() {
		t.FailNow()
	}
}

// TestAllSmallFaces compares all texts of up to three of these lines, beside a
// file that uses them, with each other and with plain answers.
func TestAllSmallFaces(t *testing.T) {
	lines := []string{"x = y", "y = x", "y = 1", "x = \\y.y", "x = \\y.(y+1)", "x = (y 1)", "x : I", "x : (b>b)", "y : a", "y = (x,x)"}
	var lists [][]impl.File
	var plain []*plainNames
	count := faceCount{kinds: map[int]int{}}
	for _, text := range upToThree(lines) {
		files := filesOf("A", text, "B", "use A\ny = A.x\nz = (A.y,1)")
		p := plainNamesOf(files)
		compareSigned(t, files, p, &count)
		_, sigs := plainSigned(p, "A")
		out, _ := impl.SignFile(files, "A")
		checkSameNames(t, files, out, "A", sigs)
		lists, plain = append(lists, files), append(plain, p)
	}
	for i := range lists {
		for _, j := range []int{i, (i + 1) % len(lists), (i + 40) % len(lists), (i * 7) % len(lists), len(lists) - 1 - i} {
			compareFaces(t, lists[i], lists[j], plain[i], plain[j], &count)
		}
	}
	count.checkKinds(t, 200)
	if count.same < 1000 || count.fits < 500 || count.breaks < 1000 || count.signed < 1000 || count.unsigned < 500 || count.without < 1000 {
		t.Errorf("the faces are %+v", count)
	}
}

// otherTypes is a text in which an expression, a signature or a name is another one.
func otherTypes(r *rand.Rand, text string) string {
	pairs := []string{"(n+99)", "n", "\\n.n", "\\n.(n+1)", "= 1", "= (1,1)", "+", ",", "(I>I)", "(a>a)", ": I", ": a", "(a>b)", "(a>I)", " = ", " = ^", "w", "1", "use", "--"}
	for range 5 {
		at := r.Intn(len(pairs)/2) * 2
		if r.Intn(2) == 0 {
			pairs[at], pairs[at+1] = pairs[at+1], pairs[at]
		}
		if out := strings.Replace(text, pairs[at], pairs[at+1], 1+r.Intn(2)); out != text {
			return out
		}
	}
	return text
}

// randomEdited is a list of files that are near other ones, mostly: with other
// texts, in another order, or without one of them.
func randomEdited(r *rand.Rand, files []impl.File) []impl.File {
	files = slices.Clone(files)
	others := linesFor(r)
	for range 1 + r.Intn(3) {
		f := &files[r.Intn(len(files))]
		text := otherTypes(r, f.Text)
		if r.Intn(3) == 0 {
			text = changedText(r, text, others)
		}
		if plainTextOfFile(text) {
			f.Text = text
		}
	}
	if r.Intn(4) == 0 {
		r.Shuffle(len(files), func(i, j int) { files[i], files[j] = files[j], files[i] })
	}
	// With about as many lines as there are.
	full := files[0].Text + strings.Repeat("\n", max(0, 36+r.Intn(4)-strings.Count(files[0].Text, "\n")))
	if r.Intn(4) == 0 && plainTextOfFile(full) {
		files[0].Text = full
	}
	if r.Intn(10) == 0 && len(files) > 1 {
		files = files[1:]
	}
	return files
}

// randomFaces is a list of files of one of the sorts that earlier chapters have.
func randomFaces(r *rand.Rand) []impl.File {
	sorts := []func(*rand.Rand) []impl.File{randomDefs, randomScopes, randomUsers, randomTyped, randomGraph}
	return sorts[r.Intn(len(sorts))](r)
}

func TestRandomFaces(t *testing.T) {
	r := rand.New(rand.NewSource(131))
	count := faceCount{kinds: map[int]int{}}
	for range 700 {
		old := randomFaces(r)
		now := randomEdited(r, old)
		p, q := plainNamesOf(old), plainNamesOf(now)
		compareFaces(t, old, now, p, q, &count)
		compareFaces(t, now, old, q, p, &count)
		compareSigned(t, now, q, &count)
	}
	count.checkKinds(t, 100)
	if count.same < 1000 || count.fits < 100 || count.breaks < 500 || count.signed < 2000 || count.full < 50 || count.unsigned < 500 || count.without < 1000 {
		t.Errorf("the faces are %+v", count)
	}
}

// TestSignaturesChangeNoType checks promise 13 for files that are signed one
// after the other, and for names that are not signed any more then.
func TestSignaturesChangeNoType(t *testing.T) {
	r := rand.New(rand.NewSource(132))
	signed, typeless, general := 0, 0, 0
	for range 160 {
		files := randomFaces(r)
		all := files
		for _, f := range files {
			out, ok := impl.SignFile(all, f.Name)
			if !ok {
				continue
			}
			front := strings.TrimSuffix(out[slices.Index(all, f)].Text, f.Text)
			checkSameNames(t, all, out, f.Name, strings.Count(front, "\n"))
			all = out
			for _, line := range strings.Split(front, "\n") {
				if line != "" {
					signed++
					out, ok = impl.UnsignName(out, f.Name, line[:1])
					general += min(1, strings.Count(line[1:], "a"))
				}
				if !ok {
					t.Fatalf("%q: %s has no signature", all, line)
				}
			}
			// An empty line is left in place of the first signature.
			if front != "" {
				front = "\n"
			}
			checkText(t, "UnsignName", all, f.Name, front+f.Text, out, ok)
		}
		checkSigned(t, all, files)
		for _, full := range impl.AllNames(all) {
			if _, code := impl.TypeOf(all, full[:1], full[2:]); code != impl.NameOk {
				typeless++
			}
		}
		if t.Failed() {
			t.FailNow()
		}
	}
	if signed < 600 || typeless < 300 || general < 100 {
		t.Errorf("%d names are signed, %d of them with variables, and %d have no types", signed, general, typeless)
	}
}

// checkSigned checks that in files of which each has been signed, if there was
// room, each name that has a type is signed, or its file is as it was.
func checkSigned(t *testing.T, files, before []impl.File) {
	t.Helper()
	for _, full := range impl.AllNames(files) {
		text, _ := impl.FindFile(files, full[:1])
		_, signed := impl.SigOf(text, full[2:])
		_, code := impl.TypeOf(files, full[:1], full[2:])
		if old, _ := impl.FindFile(before, full[:1]); signed != (code == impl.NameOk) && text != old {
			t.Errorf("%q: %s has the code %d, and is signed: %v", files, full, code, signed)
		}
	}
}

// TestSignaturesAnywhere checks promise 13 for signatures that are put
// anywhere, with other variables: only one that says something else changes types.
func TestSignaturesAnywhere(t *testing.T) {
	r := rand.New(rand.NewSource(133))
	same, others := 0, 0
	for range 1500 {
		files := randomFaces(r)
		all := impl.AllNames(files)
		if len(all) == 0 {
			continue
		}
		full := all[r.Intn(len(all))]
		text, _ := impl.FindFile(files, full[:1])
		x, code := impl.TypeOf(files, full[:1], full[2:])
		if _, signed := impl.SigOf(text, full[2:]); signed || code != impl.NameOk {
			continue
		}
		put := func(x impl.Type) []impl.File {
			lines := strings.Split(text, "\n")
			lines = slices.Insert(lines, r.Intn(len(lines)+1), full[2:]+" : "+rawText(x))
			out, ok := impl.ReplaceFile(files, full[:1], textOf(lines...))
			if !ok {
				t.Fatalf("%q has no room for a signature of %s", files, full)
			}
			return out
		}
		var vars []impl.Type
		for i := range 26 {
			vars = append(vars, variable((i*7+3)%26))
		}
		x, _ = impl.SubstVars(x, vars)
		if !plainTextOfFile(text + "\n" + full[2:] + " : " + rawText(x)) {
			continue
		}
		for _, f := range files {
			if got := impl.CompareFaces(files, put(x), f.Name); len(got) != 0 {
				t.Fatalf("%q: when %s is signed, the changes of %s are %v", files, full, f.Name, got)
			}
		}
		same++
		other := put(pair(number, number))
		if changes := impl.CompareFaces(files, other, full[:1]); rawText(x) != "(I*I)" {
			if !slices.ContainsFunc(changes, func(c impl.FaceChange) bool { return c.Name == full[2:] && c.Kind >= impl.FaceWider }) {
				t.Fatalf("%q: when %s is signed wrongly, the changes are %v", files, full, changes)
			}
			others++
		}
	}
	if same < 500 || others < 400 {
		t.Errorf("%d signatures change nothing, and %d do", same, others)
	}
}

// TestFaceResultsAreNew checks that a change of a result is not seen in another one, or in the argument.
func TestFaceResultsAreNew(t *testing.T) {
	old := filesOf("A", "x = 1\ny = 1\ny : I", "B", "use A\ny = A.x", "C", "")
	kept := slices.Clone(old)
	for _, spare := range []int{0, 8} {
		files := slices.Grow(slices.Clone(old), spare)
		for name, result := range map[string]func() ([]impl.File, bool){
			"ReplaceFile":              func() ([]impl.File, bool) { return impl.ReplaceFile(files, "A", "x = 2") },
			"ReplaceFile of the same":  func() ([]impl.File, bool) { return impl.ReplaceFile(files, "C", "") },
			"SignFile":                 func() ([]impl.File, bool) { return impl.SignFile(files, "A") },
			"SignFile without a name":  func() ([]impl.File, bool) { return impl.SignFile(files, "C") },
			"UnsignName":               func() ([]impl.File, bool) { return impl.UnsignName(files, "A", "y") },
			"ReplaceFile of the first": func() ([]impl.File, bool) { return impl.ReplaceFile(files[:1], "A", "x = 1") },
		} {
			first, ok := result()
			second, also := result()
			want := slices.Clone(second)
			if !ok || !also || !slices.Equal(first, second) {
				t.Fatalf("%s = %q and %q", name, first, second)
			}
			fill(first, impl.File{Name: "Q"})
			if !slices.Equal(files, kept) || !slices.Equal(second, want) || slices.ContainsFunc(files[len(files):cap(files)], func(f impl.File) bool { return f != impl.File{} }) {
				t.Errorf("%s: a change of a result is seen elsewhere", name)
			}
			fill(files, impl.File{Name: "R"})
			if !slices.Equal(second, want) {
				t.Errorf("%s: a change of the argument is seen in a result", name)
			}
			copy(files, old)
			clear(files[len(files):cap(files)])
		}
	}
	now := filesOf("A", "x = (1,1)\nz = 1", "B", "use A\ny = A.x")
	first, second := impl.CompareFaces(old, now, "A"), impl.CompareFaces(old, now, "A")
	fill(first, impl.FaceChange{Name: "q"})
	if got := strings.Join(faceWords("A", second), ", "); got != "other A.x, removed A.y, added A.z" {
		t.Errorf("CompareFaces = %s", got)
	}
}

// TestFaceFilesAreKept checks that no function changes its arguments, or
// memory behind them, and that results depend on nothing else.
func TestFaceFilesAreKept(t *testing.T) {
	r := rand.New(rand.NewSource(134))
	known := map[string]string{}
	for n := range 60 {
		longer := append(randomFaces(r), filesOf("E", "a = 1\nb : I")...)
		other := append(randomEdited(r, longer[:len(longer)-1]), filesOf("E", "a = (1,1)")...)
		before, otherBefore := slices.Clone(longer), slices.Clone(other)
		old, now := longer[:len(longer)-1], other[:len(other)-1]
		for range 2 {
			for _, f := range longer {
				changes, fits := impl.CompareFaces(old, now, f.Name), impl.Compatible(old, now, f.Name)
				replaced, a := impl.ReplaceFile(old, f.Name, "a = 2")
				signed, b := impl.SignFile(old, f.Name)
				unsigned, c := impl.UnsignName(old, f.Name, "b")
				if f.Name == "E" && (len(changes) > 0 || fits || a || b || c) {
					t.Errorf("%q: a file behind the list is found", old)
				}
				text := strings.Join(faceWords(f.Name, changes), " ") + faceTexts(replaced) + faceTexts(signed) + faceTexts(unsigned)
				key := string(rune('a'+n)) + f.Name
				if was, ok := known[key]; ok && was != text {
					t.Errorf("%q: %s has the results %q, and had %q", old, f.Name, text, was)
				}
				known[key] = text
			}
		}
		if !slices.Equal(longer, before) || !slices.Equal(other, otherBefore) {
			t.Errorf("the files became %v and %v", longer, other)
		}
	}
}
