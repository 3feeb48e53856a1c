package tests

import (
	"math/rand"
	"slices"
	"strings"
	"testing"

	"loop.example/livetyper/impl"
)

// words joins names by spaces.
func words(names []string) string {
	return strings.Join(names, " ")
}

// orderWords joins the names of NameOrder, or is "no" if there is no order.
func orderWords(files []impl.File) string {
	order, ok := impl.NameOrder(files)
	if !ok && len(order) == 0 {
		return "no"
	}
	if !ok {
		return "names, and no order: " + words(order)
	}
	return words(order)
}

// ofNames calls NeedsOf or NeededBy for a full name.
func ofNames(get func(files []impl.File, file string, name string) []string, files []impl.File, full string) string {
	return words(get(files, full[:1], full[2:]))
}

func TestAllNames(t *testing.T) {
	for _, c := range []struct {
		files []impl.File
		want  string
	}{
		{nil, ""}, {[]impl.File{}, ""}, {filesOf("A", ""), ""}, {filesOf("A", "", "B", "\n\n"), ""}, {filesOf("A", "x = 1"), "A.x"},
		// In the order of the lines, and of the files.
		{filesOf("A", "c = 1\na = 2\nb = 3"), "A.c A.a A.b"}, {filesOf("B", "x = 1\na = 1", "A", "y = 1\nx = 2"), "B.x B.a A.y A.x"},
		{filesOf("D", "a = 1", "A", "", "C", "b = 1", "B", "a = 1"), "D.a C.b B.a"}, {filesOf("Z", "z = 1", "M", "m = z", "A", "z = 1"), "Z.z M.m A.z"},
		// Each once, and only what a line defines.
		{filesOf("A", "x = 1\ny = 1\nx = y\ny = x\nz = 1"), "A.x A.y A.z"}, {filesOf("A", "x : I\n-- y = 1\nuse B\nz = {w=1;w}\n", "B", "x : I"), "A.z"},
		{filesOf("A", "use B\nx = (B.x+v)\nx : I\ny = (1\nz = x\n(", "B", "y = x"), "A.x A.z B.y"}, {filesOf("A", "(", "B", "x = 1"), "B.x"},
		// Whether or not they have types.
		{filesOf("A", "x = x\ny = w\nz = (1 1)\nu = z"), "A.x A.y A.z A.u"},
	} {
		if got := words(impl.AllNames(c.files)); got != c.want {
			t.Errorf("AllNames(%q) = %s", c.files, got)
		}
	}
}

func TestNeedsOf(t *testing.T) {
	for _, c := range []struct {
		files      []impl.File
		full, want string
	}{
		// Nothing.
		{filesOf("A", "x = 1"), "A.x", ""}, {filesOf("A", "x = 1\ny = x"), "A.x", ""}, {filesOf("A", "x = (w,B.w)\nw : I"), "A.x", ""},
		// On one way, and on two ways.
		{filesOf("A", "x = y\ny = z\nz = 1"), "A.x", "A.y A.z"}, {filesOf("A", "z = 1\ny = z\nx = y"), "A.x", "A.y A.z"},
		{filesOf("A", "x = (y,z)\ny = w\nz = w\nw = 1"), "A.x", "A.y A.z A.w"}, {filesOf("A", "x = (y,z)\ny = z\nz = 1"), "A.x", "A.y A.z"}, {filesOf("A", "x = (z,y)\ny = z\nz = 1"), "A.x", "A.z A.y"},
		// The nearest ones first, and then in the order in which they are mentioned.
		{filesOf("A", "x = (y,z)\ny = p\nz = q\np = r\nq = s\nr = 1\ns = 1"), "A.x", "A.y A.z A.p A.q A.r A.s"}, {filesOf("A", "x = (z,y)\ny = p\nz = q\np = r\nq = s\nr = 1\ns = 1"), "A.x", "A.z A.y A.q A.p A.s A.r"},
		{filesOf("A", "x = (y,z)\ny = (q,p)\nz = (p,(r,q))\np = 1\nq = 1\nr = 1"), "A.x", "A.y A.z A.q A.p A.r"}, {filesOf("A", "x = (y,(z,(y,w)))\ny = w\nz = v\nw = 1\nv = 1"), "A.x", "A.y A.z A.w A.v"},
		// Itself, in a circle of one, two or three names.
		{filesOf("A", "x = x"), "A.x", "A.x"}, {filesOf("A", "x : (I>I)\nx = \\n.?<n,(x 1),0>"), "A.x", "A.x"}, {filesOf("A", "x = y\ny = y"), "A.x", "A.y"},
		{filesOf("A", "x = y\ny = x"), "A.x", "A.y A.x"}, {filesOf("A", "x = y\ny = x"), "A.y", "A.x A.y"}, {filesOf("A", "x = (x,y)\ny = x"), "A.x", "A.x A.y"}, {filesOf("A", "x = (y,x)\ny = x"), "A.x", "A.y A.x"},
		{filesOf("A", "x = y\ny = z\nz = (w,x)\nw = 1"), "A.x", "A.y A.z A.w A.x"}, {filesOf("A", "x = y\ny = z\nz = y"), "A.x", "A.y A.z"},
		// Signatures stop nothing, with or without a circle.
		{filesOf("A", "x = y\ny : I\ny = z\nz = 1"), "A.x", "A.y A.z"}, {filesOf("A", "x : I\nx = y\ny = 1"), "A.x", "A.y"},
		{filesOf("A", "x : I\nx = x"), "A.x", "A.x"}, {filesOf("A", "x : I\nx = y\ny = x"), "A.x", "A.y A.x"}, {filesOf("A", "x : I\nx = y\ny = x"), "A.y", "A.x A.y"}, {filesOf("A", "x : I\ny : I\nx = y\ny = x"), "A.x", "A.y A.x"},
		// Over two files.
		{filesOf("A", "use B\nx = B.x", "B", "use A\nx = A.x"), "A.x", "B.x A.x"}, {filesOf("A", "use B\nx = B.x", "B", "use A\nx = A.x"), "B.x", "A.x B.x"}, {filesOf("A", "use B\nx = B.x\nx : I", "B", "use A\nx = A.x"), "A.x", "B.x A.x"},
		{filesOf("B", "use A\nx = A.x\nx : I", "A", "use B\nx = B.x"), "A.x", "B.x A.x"}, {filesOf("A", "use B\nx = (y,B.y)\ny = B.x", "B", "x = (z,y)\ny = z\nz = 1"), "A.x", "A.y B.y B.x B.z"}, {filesOf("A", "use B\nx = B.x", "B", "use C\nx = C.x", "C", "x = y\ny = 1"), "A.x", "B.x C.x C.y"},
		// Only what the files can use, each by itself.
		{filesOf("A", "x = B.x", "B", "x = 1"), "A.x", ""}, {filesOf("A", "use B\nx = B.x", "B", "x = C.x", "C", "use B\nx = 1"), "A.x", "B.x"}, {filesOf("A", "use C\nuse B\nx = (C.x,B.x)", "B", "x = C.x", "C", "x = y\ny = 1"), "A.x", "C.x B.x C.y"},
		{filesOf("A", "use B\nx = (w,(B.w,(C.x,(y,A.y))))\ny = 1", "B", "x = 1"), "A.x", "A.y"}, {filesOf("A", "use A\nx = A.y\ny = 1"), "A.x", ""},
		// Hidden names.
		{filesOf("A", "use B\nx = 1\ny = x\nz = B.x", "B", "x = 1"), "A.y", "A.x"}, {filesOf("A", "use B\nx = 1\ny = x\nz = B.x", "B", "x = 1"), "A.z", "B.x"}, {filesOf("A", "use B\nx = B.x", "B", "x = 1"), "A.x", "B.x"},
		{filesOf("A", "x = \\y.y\ny = 1"), "A.x", ""}, {filesOf("A", "x = {y=z;y}\ny = 1\nz = 1"), "A.x", "A.z"}, {filesOf("A", "x = {y=y;y}\ny = 1"), "A.x", "A.y"}, {filesOf("A", "x = \\x.x"), "A.x", ""}, {filesOf("A", "use B\nx = \\y.(y,B.y)\ny = 1", "B", "y = 1"), "A.x", "B.y"},
		// Of the lines that define the names.
		{filesOf("A", "x = y\nx = z\ny = 1\ny = z\nz = 1"), "A.x", "A.y"}, {filesOf("A", "x = (y\n-- x = y\nx = z\ny = 1\nz = 1"), "A.x", "A.z"},
		// Whether or not they have types.
		{filesOf("A", "x = y\ny = (z w)\nz = (1 1)"), "A.x", "A.y A.z"}, {filesOf("A", "x = (y z)\ny = (1 1)\nz = 1"), "A.x", "A.y A.z"},
		// Of no definition.
		{filesOf("A", "x : I\ny = x\nz = y"), "A.x", ""}, {filesOf("A", "x = y\ny = 1"), "A.z", ""}, {filesOf("A", "x = y\ny = 1"), "B.x", ""}, {filesOf("A", "x = y\ny = 1", "B", ""), "B.x", ""}, {filesOf("A", "(\nx = (y\ny = 1"), "A.x", ""}, {nil, "A.x", ""},
	} {
		if got := ofNames(impl.NeedsOf, c.files, c.full); got != c.want {
			t.Errorf("NeedsOf(%q, %s) = %s, not %s", c.files, c.full, got, c.want)
		}
	}
}

func TestNeededBy(t *testing.T) {
	for _, c := range []struct {
		files      []impl.File
		full, want string
	}{
		{filesOf("A", "x = 1"), "A.x", ""}, {filesOf("A", "x = y\ny = 1"), "A.x", ""}, {filesOf("A", "x = y\ny = 1"), "A.y", "A.x"},
		// Directly or not, in the order of all names.
		{filesOf("A", "x = y\ny = z\nz = 1\nw = 1"), "A.z", "A.x A.y"}, {filesOf("A", "z = 1\ny = z\nw = 1\nx = y"), "A.z", "A.y A.x"}, {filesOf("A", "x = (y,z)\ny = w\nz = w\nw = 1"), "A.w", "A.x A.y A.z"},
		{filesOf("B", "use A\nx = A.x\ny = 1", "A", "y = x\nx = 1"), "A.x", "B.x A.y"}, {filesOf("A", "y = x\nx = 1", "B", "use A\nx = A.x\ny = 1"), "A.x", "A.y B.x"}, {filesOf("A", "x = 1", "B", "x = 1\ny = x"), "A.x", ""}, {filesOf("A", "x = 1", "B", "x = 1\ny = x"), "B.x", "B.y"},
		// In circles, with signatures and without them.
		{filesOf("A", "x = x"), "A.x", "A.x"}, {filesOf("A", "x = x\nx : I\ny = x"), "A.x", "A.x A.y"}, {filesOf("A", "x = y\ny = x\nz = x"), "A.x", "A.x A.y A.z"}, {filesOf("A", "x = y\ny = x\nz = x"), "A.z", ""}, {filesOf("A", "x : I\nx = y\ny = x\nz = y"), "A.x", "A.x A.y A.z"},
		{filesOf("A", "use B\nx = B.x\ny = x", "B", "use A\nx = A.x"), "B.x", "A.x A.y B.x"}, {filesOf("A", "x = y\ny : I\ny = z\nz = 1"), "A.z", "A.x A.y"},
		// Hidden, or out of reach.
		{filesOf("A", "x = 1\ny = \\x.x\nz = {x=1;x}"), "A.x", ""}, {filesOf("A", "x = 1\ny = {x=x;x}"), "A.x", "A.y"}, {filesOf("A", "use B\nx = 1\ny = x\nz = B.x", "B", "x = 1"), "B.x", "A.z"}, {filesOf("A", "x = B.x", "B", "x = 1"), "B.x", ""},
		{filesOf("A", "x = 1\ny = 1\ny = x\nz = (x\n-- v = x"), "A.x", ""},
		// Of no definition.
		{filesOf("A", "x : I\ny = x"), "A.x", ""}, {filesOf("A", "y = x"), "A.x", ""}, {filesOf("A", "use B\ny = B.x", "B", "x : I"), "B.x", ""}, {filesOf("A", "use B\ny = B.x"), "B.x", ""}, {nil, "A.x", ""},
	} {
		if got := ofNames(impl.NeededBy, c.files, c.full); got != c.want {
			t.Errorf("NeededBy(%q, %s) = %s, not %s", c.files, c.full, got, c.want)
		}
	}
}

func TestNameOrder(t *testing.T) {
	for _, c := range []struct {
		files []impl.File
		want  string
	}{
		{nil, ""}, {[]impl.File{}, ""}, {filesOf("A", "", "B", "use A\nx : I"), ""}, {filesOf("A", "x = 1"), "A.x"}, {filesOf("A", "(\nx = (1\n-- y = y"), ""},
		// As they are, if nothing is against it.
		{filesOf("A", "c = 1\na = c\nb = a"), "A.c A.a A.b"}, {filesOf("B", "y = 1\nx = y", "A", "use B\nx = B.x\na = x"), "B.y B.x A.x A.a"},
		// The first one that can come is found from the first name on, each time.
		{filesOf("A", "a = b\nb = 1"), "A.b A.a"}, {filesOf("A", "a = b\nb = c\nc = 1\nd = 1"), "A.c A.b A.a A.d"}, {filesOf("A", "a = d\nb = c\nc = 1\nd = 1"), "A.c A.b A.d A.a"}, {filesOf("A", "a = e\nb = a\nc = 1\nd = c\ne = c"), "A.c A.d A.e A.a A.b"},
		{filesOf("A", "a = (c,d)\nb = c\nc = 1\nd = 1\ne = 1"), "A.c A.b A.d A.a A.e"}, {filesOf("A", "a = (b,(b,c))\nb = 1\nc = b"), "A.b A.c A.a"}, {filesOf("A", "use B\na = B.b\nb = 1", "B", "a = b\nb = 1\nc = 1"), "A.b B.b A.a B.a B.c"},
		{filesOf("B", "a = b\nb = 1\nc = 1", "A", "use B\na = B.b\nb = 1"), "B.b B.a B.c A.a A.b"},
		// In circles, or behind them, with signatures and without them.
		{filesOf("A", "x = x"), "no"}, {filesOf("A", "x = x\nx : I"), "no"}, {filesOf("A", "y = 1\nx = \\n.(x n)\nx : (I>I)\nz = 1"), "no"}, {filesOf("A", "x = y\ny = x"), "no"}, {filesOf("A", "x : I\nx = y\ny = x"), "no"}, {filesOf("A", "x = y\ny : I\ny = x"), "no"},
		{filesOf("A", "x : I\ny : I\nx = y\ny = x"), "no"}, {filesOf("A", "use B\nx = B.x", "B", "use A\nx = A.x"), "no"}, {filesOf("A", "use B\nx : I\nx = B.x", "B", "use A\nx = A.x\nx : I"), "no"}, {filesOf("A", "x = y\ny = z\nz = (x,w)\nw = 1"), "no"}, {filesOf("A", "x = 1", "B", "x = x"), "no"},
		{filesOf("A", "x = y\ny = y"), "no"},
		// What only seems to be a circle.
		{filesOf("A", "x = \\x.x"), "A.x"}, {filesOf("A", "x = {x=1;x}"), "A.x"}, {filesOf("A", "x = {x=x;x}"), "no"}, {filesOf("A", "x = {y=x;y}\ny = 1"), "no"}, {filesOf("A", "use B\nx = B.x", "B", "x = A.x"), "B.x A.x"}, {filesOf("A", "use B\nx = B.x", "B", "x = 1"), "B.x A.x"}, {filesOf("A", "use A\nx = A.x"), "A.x"},
		{filesOf("A", "x = y\ny = 1\ny = x"), "A.y A.x"}, {filesOf("A", "x = 1\nx = x"), "A.x"}, {filesOf("A", "x = x\nx = 1"), "no"}, {filesOf("A", "x = y\ny = (x"), "A.x"},
		// Names that are not there, or without types, keep nothing waiting.
		{filesOf("A", "x = (w,B.w)\ny = x"), "A.x A.y"}, {filesOf("A", "a = b\nb = (1 1)\nc = w"), "A.b A.a A.c"}, {filesOf("A", "x = w\nw : I"), "A.x"},
	} {
		if got := orderWords(c.files); got != c.want {
			t.Errorf("NameOrder(%q) = %s, not %s", c.files, got, c.want)
		}
	}
}

func TestUnusedNames(t *testing.T) {
	for _, c := range []struct {
		files []impl.File
		want  string
	}{
		{nil, ""}, {filesOf("A", ""), ""}, {filesOf("A", "x : I\nuse B"), ""}, {filesOf("A", "x = 1"), "A.x"}, {filesOf("A", "(\ny = x\nx = (1"), "A.y"},
		{filesOf("A", "x = 1\ny = x"), "A.y"}, {filesOf("A", "y = x\nx = 1\nz = 1"), "A.y A.z"}, {filesOf("A", "z = 1\na = 1\nb = z"), "A.a A.b"}, {filesOf("B", "b = 1\na = 1", "A", "a = 1"), "B.b B.a A.a"},
		// A definition can use itself.
		{filesOf("A", "x = x"), ""}, {filesOf("A", "x = x\nx : I\ny = x"), "A.y"}, {filesOf("A", "x = y\ny = x\nz = x"), "A.z"}, {filesOf("A", "use B\nx = B.x", "B", "use A\nx = A.x\nx : I"), ""},
		// The names of other files.
		{filesOf("A", "use B\nx = B.x", "B", "x = 1"), "A.x"}, {filesOf("A", "use B\nx = B.x", "B", "x = 1\ny = 1", "C", "x = 1"), "A.x B.y C.x"}, {filesOf("A", "x = B.x", "B", "x = 1"), "A.x B.x"}, {filesOf("A", "use B\nx = 1\ny = x", "B", "x = 1"), "A.y B.x"}, {filesOf("A", "use A\nx = A.y\ny = 1"), "A.x A.y"},
		// Only uses that are not bound, of lines that define names.
		{filesOf("A", "x = 1\ny = \\x.x"), "A.x A.y"}, {filesOf("A", "x = 1\ny = {x=1;x}"), "A.x A.y"}, {filesOf("A", "x = 1\ny = {x=x;x}"), "A.y"}, {filesOf("A", "x = 1\ny = 1\ny = x"), "A.x A.y"}, {filesOf("A", "x = 1\ny = (x\n-- x\nx : I"), "A.x"},
		// Without types, too.
		{filesOf("A", "x = (1 1)\ny = x\nz = (y,w)"), "A.z"},
	} {
		if got := words(impl.UnusedNames(c.files)); got != c.want {
			t.Errorf("UnusedNames(%q) = %s, not %s", c.files, got, c.want)
		}
	}
}

func TestUnusedUses(t *testing.T) {
	b := "x = 1\ny = 1"
	for text, want := range map[string]string{
		"": "", "x = B.x": "", "use B": "B", "use B\n": "B", "use B\nx = B.x": "", "x = B.x\nuse B": "", "x = 1\nuse C\ny = 1\nuse B": "C B", "use B\nuse C\nx = C.x": "B", "use B\nuse C\nx = (C.x,B.x)": "", "use B\nx = x\ny : I": "B",
		// Once, in the order of the uses.
		"use B\nuse B": "B", "use C\nuse B\nuse C\nuse B": "C B", "use B\nuse B\nx = B.x": "", "use D\nuse C\nuse B\nx = C.x": "D B",
		// Files that it cannot use.
		"use A": "A", "use A\nx = A.x": "", "use A\nx = x": "A", "use Q": "Q", "use Q\nx = Q.x": "", "use Q\nuse Z\nx = Q.x": "Z", "x = Q.x": "",
		// A name that the file does not define, and a line that does not define its name.
		"use B\nx = B.z": "", "use B\nx = B.b": "", "use B\nx = 1\nx = B.x": "", "use B\nx = 1\nx = 2\nx = B.z": "", "use B\nx = C.x\nx = B.x": "", "use B\nuse C\nx = B.x\nx = C.x": "",
		// Lines that are no definitions.
		"use B\n-- B.x": "B", "use B\n--x = B.x": "B", "use B\nx = (B.x": "B", "use B\nx = B.": "B", "use B\nx = B.x ": "B", "use B\n x = B.x": "B", "use B\nx : B": "B", "use B\nx : I": "B", "use B\nB.x = 1": "B", "use B\nx = B": "B", "use B\nB.x": "B", "use B\nuse B.x": "B",
		// Names of files are not bound.
		"use B\nf = \\x.B.x": "", "use B\nf = {x=1;B.x}": "", "use B\nf = {x=B.x;x}": "", "use B\nf = \\x.x": "B", "use B\nf = \\b.b": "B", "use B\nf = {b=1;b}": "B",
		// Anywhere in an expression, with a type or without one.
		"use B\nx = ?<0,1,{y=(2,_B.x);\\z.^y}>": "", "use B\nx = (1 B.x)": "", "use B\nx = (w,B.x)": "", "use B\nx = (B.x,x)\nx : I": "",
	} {
		for _, files := range [][]impl.File{filesOf("A", text, "B", b, "C", b), filesOf("C", "use B\nx = B.y", "B", "use A\nx = A.x", "A", text)} {
			if got := words(impl.UnusedUses(files, "A")); got != want {
				t.Errorf("UnusedUses(%q) = %s, not %s", files, got, want)
			}
		}
		if got := words(impl.UnusedUses(filesOf("A", text), "A")); got != want {
			t.Errorf("UnusedUses(%q) without other files = %s, not %s", text, got, want)
		}
	}
	files := filesOf("A", "use B\nuse C", "B", "use A\nx = C.x", "D", "")
	for file, want := range map[string]string{"A": "B C", "B": "A", "D": "", "C": "", "E": "", "a": "", "": "", "AB": "", "A.x": "", "use": "", "\xff": ""} {
		if got := words(impl.UnusedUses(files, file)); got != want {
			t.Errorf("UnusedUses(%q) = %s, not %s", file, got, want)
		}
		if got := impl.UnusedUses(nil, file); len(got) != 0 {
			t.Errorf("UnusedUses(%q) without files = %v", file, got)
		}
	}
}

func TestTypeSearch(t *testing.T) {
	files := filesOf(
		"B", "use A\nn = 1\nf = \\x.(x+A.n)\ni = \\x.x\nk = \\x.\\y.x\np = (1,i)\na = a\na : a\nb : c\nb = (1 1)",
		"A", "n = 2\ns : (I>I)\ns = \\x.x\nq = \\x.(x,x)\nd = (i,i)\ni = \\x.x\nd = 1\nr = \\x.^x",
		// None of these has a type.
		"C", "use A\nc = c\nw = v\nt = (1 1)\ne = (t,1)\nz : I\n(\nx = A.w",
	)
	for want, names := range map[string]string{
		// Without variables.
		"I": "B.n B.a B.b A.n", "(I>I)": "B.f B.i B.a B.b A.s A.i", "(I*I)": "B.a B.b", "((I>I)>(I>I))": "B.i B.a B.b A.i", "(I>(I>I))": "B.k B.a B.b", "(I*(I>I))": "B.p B.a B.b", "(I>(I*I))": "B.a B.b A.q", "((I*I)>I)": "B.a B.b A.r", "(I>((I*I)*I))": "B.a B.b",
		// With variables, which stay as they are; their names do not matter.
		"a": "B.a B.b", "z": "B.a B.b", "(a>a)": "B.i B.a B.b A.i", "(z>z)": "B.i B.a B.b A.i", "(a>b)": "B.a B.b", "(b>a)": "B.a B.b", "(a>I)": "B.a B.b", "(I>a)": "B.a B.b", "(a>(b>a))": "B.k B.a B.b", "(a>(b>b))": "B.a B.b", "(a>(a>a))": "B.k B.a B.b", "(b>(a>b))": "B.k B.a B.b",
		"(a*b)": "B.a B.b", "((a*b)>a)": "B.a B.b A.r", "((b*a)>b)": "B.a B.b A.r", "((a*b)>b)": "B.a B.b", "((a*a)>a)": "B.a B.b A.r", "(a>(a*a))": "B.a B.b A.q", "(a>(a*b))": "B.a B.b", "((a>b)>(a>b))": "B.i B.a B.b A.i", "((a>b)>(b>a))": "B.a B.b",
		"((a>a)*(b>b))": "B.a B.b A.d", "((a>a)*(a>a))": "B.a B.b A.d", "((b>b)*(a>a))": "B.a B.b A.d", "((a>b)*(a>b))": "B.a B.b", "((I>I)*(a>a))": "B.a B.b A.d", "(I*(c>c))": "B.p B.a B.b",
	} {
		if got := words(impl.TypeSearch(files, typeOf(t, want))); got != names {
			t.Errorf("TypeSearch(%s) = %s, not %s", want, got, names)
		}
	}
	// The variables of a signature and of the type that is searched for have nothing in common.
	other := filesOf("A", "x = y\ny : (z>(a*z))\ny = 1")
	if got := words(impl.TypeSearch(other, typeOf(t, "(a>(z*a))"))); got != "A.x A.y" {
		t.Errorf("TypeSearch = %s", got)
	}
	if got := impl.TypeSearch(nil, number); len(got) != 0 {
		t.Errorf("TypeSearch without files = %v", got)
	}
}

// TestTypeSearchLimits searches for types that are not valid, or just so.
func TestTypeSearchLimits(t *testing.T) {
	files := filesOf("A", "x : a\nx = x\ny = 1")
	for i, bad := range badTypes() {
		if got := impl.TypeSearch(files, bad); len(got) != 0 {
			t.Errorf("TypeSearch of bad type %d = %v", i, got)
		}
	}
	for _, want := range goodTypes(t) {
		names := "A.x"
		if want.Kind == impl.TypeNum {
			names = "A.x A.y"
		}
		if got := words(impl.TypeSearch(files, want)); got != names {
			t.Errorf("TypeSearch(%s) = %s", rawText(want), got)
		}
	}
}

// checkNoGraph checks that nothing is found in files.
func checkNoGraph(t *testing.T, files []impl.File) {
	t.Helper()
	if all, unused, found := impl.AllNames(files), impl.UnusedNames(files), impl.TypeSearch(files, number); len(all)+len(unused)+len(found) != 0 {
		t.Errorf("%.50q: names %v, unused %v, found %v", files, all, unused, found)
	}
	if order := orderWords(files); order != "no" {
		t.Errorf("%.50q: order %s", files, order)
	}
	for _, f := range append(filesOf("A", "", "B", "", "Q", "", "", ""), files[0], files[len(files)-1]) {
		if uses := impl.UnusedUses(files, f.Name); len(uses) != 0 {
			t.Errorf("%.50q: UnusedUses(%q) = %v", files, f.Name, uses)
		}
		for _, name := range []string{"x", "y", "v", ""} {
			if needs, needed := impl.NeedsOf(files, f.Name, name), impl.NeededBy(files, f.Name, name); len(needs)+len(needed) != 0 {
				t.Errorf("%.50q, %q, %q: needs %v, needed %v", files, f.Name, name, needs, needed)
			}
		}
	}
}

// TestNoGraphs has lists of files that are not valid, some of them only by
// what they have beside texts that have names and an order.
func TestNoGraphs(t *testing.T) {
	text := "use B\nuse C\nx = 1\ny = x\nv = B.x"
	lists := [][]impl.File{
		filesOf("A", text, "A", text), filesOf("A", text, "B", text, "A", ""), filesOf("A", text, "B", text, "C", text, "D", text, "E", text), filesOf("A", text, "B", "", "C", "", "D", "", "E", ""),
		filesOf("A", text+"\n--"+strings.Repeat("-", impl.MaxText)), filesOf("A", text+strings.Repeat("\n", impl.MaxFileLine)), filesOf("A", text, "B", longest+"x"),
	}
	for _, bad := range badFileNames() {
		lists = append(lists, filesOf("A", text, bad, text), filesOf(bad, text, "A", text))
	}
	for _, files := range append(lists, invalidFiles()...) {
		checkNoGraph(t, files)
	}
}

// TestNoSuchNode has strings that are no names of definitions.
func TestNoSuchNode(t *testing.T) {
	files := filesOf("A", "use B\nx = (y,B.x)\ny : I\ny = x\nz : I\n(", "B", "x = 1")
	for _, name := range append(badValueNames(), "z", "w", "", "A.x", "x ", "xx", ".x", "x.", "\x00", "\xff") {
		if needs, needed := impl.NeedsOf(files, "A", name), impl.NeededBy(files, "A", name); len(needs)+len(needed) != 0 {
			t.Errorf("%q: needs %v, needed %v", name, needs, needed)
		}
	}
	for _, file := range append(badFileNames(), "C", "Q", "x", "AB", "\xff") {
		for _, name := range []string{"x", "y", "", "A.x", ".x", "x.x"} {
			if needs, needed := impl.NeedsOf(files, file, name), impl.NeededBy(files, file, name); len(needs)+len(needed) != 0 {
				t.Errorf("%q, %q: needs %v, needed %v", file, name, needs, needed)
			}
		}
	}
}

// plainNeeds follows the chapter word by word, with a list that has names more than once.
func plainNeeds(deps map[string][]string, full string) []string {
	list := slices.Clone(deps[full])
	for i := 0; i < len(list); i++ {
		if !slices.Contains(list[:i], list[i]) {
			list = append(list, deps[list[i]]...)
		}
	}
	var different []string
	for _, name := range list {
		if !slices.Contains(different, name) {
			different = append(different, name)
		}
	}
	return different
}

// plainUnusedUses looks for the names of files in the texts of the lines:
// since a name with a file is never bound, each of them counts.
func plainUnusedUses(text string) []string {
	var unused []string
	for _, file := range impl.UsesOf(text) {
		used := false
		for _, line := range strings.Split(text, "\n") {
			used = used || impl.ParseLine(line).Kind == impl.LineDef && strings.Contains(line, file+".")
		}
		if !used {
			unused = append(unused, file)
		}
	}
	return unused
}

// checkOrder checks that an order has all names, each behind its deps, and that
// each name that could come earlier and is before another one in names does so.
func checkOrder(t *testing.T, files []impl.File, names []string, deps map[string][]string, order []string) {
	t.Helper()
	sorted := slices.Sorted(slices.Values(order))
	if !slices.Equal(sorted, slices.Sorted(slices.Values(names))) {
		t.Fatalf("%q: the order %v has other names", files, order)
	}
	for i, full := range order {
		for _, name := range names {
			canCome := !slices.Contains(order[:i], name) && !slices.ContainsFunc(deps[name], func(dep string) bool { return !slices.Contains(order[:i], dep) })
			if canCome && name != full {
				t.Fatalf("%q: in the order %v, %s could come instead of %s", files, order, name, full)
			}
			if name == full {
				if !canCome {
					t.Fatalf("%q: in the order %v, %s comes before what it needs", files, order, full)
				}
				break
			}
		}
	}
}

// graphCount says how many of the files have orders, and how much is found in them.
type graphCount struct{ orders, circles, signedCircles, needs, unusedNames, unusedUses, found int }

// compareGraph compares all functions for valid files with plain answers from
// the names and DepsOf.
func compareGraph(t *testing.T, files []impl.File, want []impl.Type, count *graphCount) {
	t.Helper()
	var names, used, unused []string
	deps, needs, types := map[string][]string{}, map[string][]string{}, map[string]impl.Type{}
	for _, f := range files {
		for _, name := range impl.NamesOf(f.Text) {
			full := f.Name + "." + name
			names = append(names, full)
			deps[full] = impl.DepsOf(files, f.Name, name)
			used = append(used, deps[full]...)
			if x, code := impl.TypeOf(files, f.Name, name); code == impl.NameOk {
				types[full] = x
			}
		}
	}
	if got := impl.AllNames(files); !slices.Equal(got, names) {
		t.Fatalf("%q: AllNames = %v, not %v", files, got, names)
	}
	circles := false
	for _, full := range names {
		needs[full] = plainNeeds(deps, full)
		if got := impl.NeedsOf(files, full[:1], full[2:]); !slices.Equal(got, needs[full]) {
			t.Fatalf("%q: NeedsOf(%s) = %v, not %v", files, full, got, needs[full])
		}
		if !slices.Contains(used, full) {
			unused = append(unused, full)
		}
		if slices.Contains(needs[full], full) {
			circles = true
			if !impl.CyclicName(files, full[:1], full[2:]) {
				count.signedCircles++
			}
		}
		count.needs += len(needs[full])
	}
	if got := impl.UnusedNames(files); !slices.Equal(got, unused) {
		t.Fatalf("%q: UnusedNames = %v, not %v", files, got, unused)
	}
	for _, full := range append(names, "A.w", "Q.a") {
		var needed []string
		for _, by := range names {
			if slices.Contains(needs[by], full) {
				needed = append(needed, by)
			}
		}
		if got := impl.NeededBy(files, full[:1], full[2:]); !slices.Equal(got, needed) {
			t.Fatalf("%q: NeededBy(%s) = %v, not %v", files, full, got, needed)
		}
	}
	order, ok := impl.NameOrder(files)
	switch {
	case ok == circles || !ok && len(order) != 0:
		t.Fatalf("%q: NameOrder = %v, %v", files, order, ok)
	case ok:
		checkOrder(t, files, names, deps, order)
		count.orders++
	default:
		count.circles++
	}
	for _, f := range append(filesOf("Q", ""), files...) {
		uses := plainUnusedUses(f.Text)
		if got := impl.UnusedUses(files, f.Name); !slices.Equal(got, uses) {
			t.Fatalf("%q: UnusedUses(%s) = %v, not %v", files, f.Name, got, uses)
		}
		count.unusedUses += len(uses)
	}
	for _, x := range want {
		var found []string
		for _, full := range names {
			if y, ok := types[full]; ok && impl.InstanceOf(x, y) {
				found = append(found, full)
			}
		}
		if got := impl.TypeSearch(files, x); !slices.Equal(got, found) {
			t.Fatalf("%q: TypeSearch(%s) = %v, not %v", files, impl.FormatType(x), got, found)
		}
		count.found += len(found)
	}
	count.unusedNames += len(unused)
}

// TestAllSmallGraphs compares all texts of up to three of these lines, beside a file that uses them.
func TestAllSmallGraphs(t *testing.T) {
	lines := []string{"use B", "x = y", "y = x", "y = (z,x)", "z = (B.x,y)", "z = 1", "x = \\y.(y,z)", "x : I", "y : (a>a)", "x = B.w", "z = (y", "use Q"}
	want := typesOf(t, []string{"I", "(a*a)"})
	var count graphCount
	for _, text := range upToThree(lines) {
		compareGraph(t, filesOf("B", "x = A.x\nuse A\ny = x", "A", text), want, &count)
	}
	if count.orders < 1000 || count.circles < 150 || count.signedCircles < 50 || count.needs < 1000 || count.unusedNames < 1000 || count.unusedUses < 500 || count.found < 500 {
		t.Errorf("the graphs are %+v", count)
	}
}

// randomGraph is a list of files whose definitions use names anywhere, in many
// circles or none, since a name that is mentioned can be one that is not defined.
func randomGraph(r *rand.Rand) []impl.File {
	files := filesOf("A", "", "B", "", "C", "", "D", "")[:1+r.Intn(4)]
	r.Shuffle(len(files), func(i, j int) { files[i], files[j] = files[j], files[i] })
	spread, letters := 1+r.Intn(12), 1+r.Intn(8)
	name := func() string {
		text := string(rune('a' + r.Intn(letters)))
		switch r.Intn(3 * spread) {
		case 0, 1:
			return text
		case 2:
			return string(rune('A'+r.Intn(5))) + "." + text
		}
		return "1"
	}
	for i := range files {
		var lines []string
		for range r.Intn(20) {
			text := string(rune('a' + r.Intn(letters)))
			switch r.Intn(8) {
			case 0:
				lines = append(lines, "use "+string(rune('A'+r.Intn(5))))
			case 1:
				lines = append(lines, text+" : "+[]string{"I", "(a>a)", "a"}[r.Intn(3)])
			case 2:
				lines = append(lines, text+" = \\"+string(rune('a'+r.Intn(letters)))+".("+name()+","+name()+")")
			default:
				lines = append(lines, text+" = ("+name()+",("+name()+","+name()+"))")
			}
		}
		files[i].Text = textOf(lines...)
	}
	return files
}

func TestRandomGraphs(t *testing.T) {
	r := rand.New(rand.NewSource(91))
	want := typesOf(t, []string{"I", "a", "(a>a)", "(I*(I*I))", "(b>(I*I))"})
	var count graphCount
	for range 500 {
		compareGraph(t, randomDefs(r), want, &count)
		compareGraph(t, randomGraph(r), want, &count)
	}
	if count.orders < 200 || count.circles < 200 || count.signedCircles < 100 || count.needs < 5000 || count.unusedNames < 1000 || count.unusedUses < 500 || count.found < 1000 {
		t.Errorf("the graphs are %+v", count)
	}
}

// TestNeedsAreClosed checks promise 9: what a name needs is closed, and comes
// before it in the order.
func TestNeedsAreClosed(t *testing.T) {
	r := rand.New(rand.NewSource(92))
	before, further := 0, 0
	for range 1000 {
		files := randomGraph(r)
		order, ok := impl.NameOrder(files)
		for _, full := range impl.AllNames(files) {
			needs := impl.NeedsOf(files, full[:1], full[2:])
			for _, dep := range impl.DepsOf(files, full[:1], full[2:]) {
				if !slices.Contains(needs, dep) {
					t.Fatalf("%q: %s uses %s, and needs %v", files, full, dep, needs)
				}
			}
			for _, need := range needs {
				for _, next := range impl.NeedsOf(files, need[:1], need[2:]) {
					if !slices.Contains(needs, next) {
						t.Fatalf("%q: %s needs %v, and %s needs %s", files, full, needs, need, next)
					}
					further++
				}
				if !slices.Contains(impl.NeededBy(files, need[:1], need[2:]), full) {
					t.Fatalf("%q: %s is not needed by %s", files, need, full)
				}
				if ok && slices.Index(order, need) >= slices.Index(order, full) {
					t.Fatalf("%q: in the order %v, %s does not come before %s", files, order, need, full)
				}
				if ok {
					before++
				}
			}
		}
	}
	if before < 500 || further < 5000 {
		t.Errorf("%d needs come before, and %d are those of needs", before, further)
	}
}

// TestLongGraphs has as many names as there is room for, with very many ways.
func TestLongGraphs(t *testing.T) {
	files := longWays("1")
	all := impl.AllNames(files)
	if len(all) != 104 || all[0] != "A.a" || all[103] != "D.z" {
		t.Fatalf("AllNames = %v", all)
	}
	if needs := impl.NeedsOf(files, "A", "a"); !slices.Equal(needs, all[1:]) {
		t.Errorf("NeedsOf = %v", needs)
	}
	if needed := impl.NeededBy(files, "D", "z"); !slices.Equal(needed, all[:102]) {
		t.Errorf("NeededBy = %v", needed)
	}
	want := slices.Concat([]string{"D.y", "D.z"}, all[:102])
	slices.Reverse(want[2:])
	if order, ok := impl.NameOrder(files); !ok || !slices.Equal(order, want) {
		t.Errorf("NameOrder = %v", order)
	}
	if unused := words(impl.UnusedNames(files)); unused != "A.a" {
		t.Errorf("UnusedNames = %s", unused)
	}
	if found := impl.TypeSearch(files, number); !slices.Equal(found, all) {
		t.Errorf("TypeSearch = %v", found)
	}
	for file, want := range map[string]string{"A": "A C D", "B": "A B D", "C": "A B C", "D": "A B C D"} {
		if got := words(impl.UnusedUses(files, file)); got != want {
			t.Errorf("UnusedUses(%s) = %s", file, got)
		}
	}
	files = longWays("A.a")
	if needs, order := impl.NeedsOf(files, "C", "k"), orderWords(files); len(needs) != 104 || order != "no" || len(impl.UnusedNames(files)) != 0 {
		t.Errorf("in a circle of all names, NeedsOf = %v, and the order is %s", needs, order)
	}
}

// TestGraphResultsAreNew checks that a change of a result is not seen in another one.
func TestGraphResultsAreNew(t *testing.T) {
	files := filesOf("A", "use B\nuse C\na = (b,c)\nb = c\nc = 1\n", "B", "d = 1")
	for range 2 {
		order, _ := impl.NameOrder(files)
		results := [][]string{
			impl.AllNames(files), order, impl.NeedsOf(files, "A", "a"), impl.NeededBy(files, "A", "c"), impl.UnusedNames(files), impl.UnusedUses(files, "A"), impl.TypeSearch(files, number),
		}
		for i, want := range []string{"A.a A.b A.c B.d", "A.c A.b A.a B.d", "A.b A.c", "A.a A.b", "A.a B.d", "B C", "A.b A.c B.d"} {
			if got := words(results[i]); got != want {
				t.Fatalf("result %d is %s, not %s", i, got, want)
			}
			for j := range results[i][:cap(results[i])] {
				results[i][:cap(results[i])][j] = "Q"
			}
		}
	}
}

// TestGraphFilesAreKept checks that no function changes its arguments, or memory behind them.
func TestGraphFilesAreKept(t *testing.T) {
	r := rand.New(rand.NewSource(93))
	want := typeOf(t, "((a>b)*I)")
	for range 100 {
		longer := append(randomGraph(r), filesOf("E", "a = 1")...)
		before := slices.Clone(longer)
		files := longer[:len(longer)-1]
		impl.AllNames(files)
		impl.NameOrder(files)
		impl.UnusedNames(files)
		impl.TypeSearch(files, want)
		for _, f := range longer {
			impl.NeedsOf(files, f.Name, "a")
			impl.NeededBy(files, f.Name, "a")
			impl.UnusedUses(files, f.Name)
		}
		if !slices.Equal(longer, before) || rawText(want) != "((a>b)*I)" {
			t.Errorf("the files became %v, and the type %s", longer, rawText(want))
		}
	}
}
