package tests

import (
	"math/rand"
	"slices"
	"strconv"
	"strings"
	"testing"

	"loop.example/livetyper/impl"
)

// codeWords names the codes of names as the script of the last chapter does.
func codeWords() map[int]string {
	return map[int]string{impl.NameOk: "ok", impl.NameNone: "none", impl.NameWord: "word", impl.NameType: "type", impl.NameLarge: "large", impl.NameCycle: "cycle", impl.NameBlock: "block"}
}

// nameAnswer writes what TypeOf and CodeOf return: the type, or - if there is
// none; and the code with its string, unless it is NameOk.
func nameAnswer(files []impl.File, file, name string) string {
	x, typeCode := impl.TypeOf(files, file, name)
	code, word := impl.CodeOf(files, file, name)
	if typeCode != impl.NameOk && (!zeroType(x) || typeCode != code) || (word != "") != (code == impl.NameWord) {
		return "TypeOf with the code " + strconv.Itoa(typeCode) + ", and CodeOf " + strconv.Itoa(code) + " " + word
	}
	answer := "-"
	if typeCode == impl.NameOk {
		answer = impl.FormatType(x)
	}
	if code != impl.NameOk || typeCode != impl.NameOk {
		answer += " " + codeWords()[code]
	}
	return strings.TrimSpace(answer + " " + word)
}

// nameCase has files, and for each full name what nameAnswer returns, behind a space.
type nameCase struct {
	files []impl.File
	want  []string
}

// oneFile is a case of a file A.
func oneFile(text string, want ...string) nameCase {
	return nameCase{filesOf("A", text), want}
}

// twoFiles is a case of the files A and B.
func twoFiles(a, b string, want ...string) nameCase {
	return nameCase{filesOf("A", a, "B", b), want}
}

// checkNameCases checks cases, also with the files in another order and one more of them.
func checkNameCases(t *testing.T, cases []nameCase) {
	t.Helper()
	for _, c := range cases {
		more := append(filesOf("Z", "use A\nx = A.x\nx : I\ny = 1\n("), c.files...)
		slices.Reverse(more)
		for _, files := range [][]impl.File{c.files, more} {
			if !impl.FilesValid(files) {
				t.Fatalf("%q is not valid", files)
			}
			for _, want := range c.want {
				if got := want[:4] + nameAnswer(files, want[:1], want[2:3]); got != want {
					t.Errorf("%q: %s, not %s", files, got, want)
				}
			}
		}
	}
}

func TestNameConstants(t *testing.T) {
	codes := []int{impl.NameOk, impl.NameNone, impl.NameWord, impl.NameType, impl.NameLarge, impl.NameCycle, impl.NameBlock}
	if !slices.Equal(codes, []int{0, 1, 2, 3, 4, 5, 6}) {
		t.Errorf("the codes are %v", codes)
	}
	kinds := []int{impl.FaultName, impl.FaultType, impl.FaultLarge, impl.FaultCycle}
	if !slices.Equal(kinds, []int{5, 6, 7, 8}) {
		t.Errorf("the kinds are %v", kinds)
	}
}

func TestNamesWithTypes(t *testing.T) {
	checkNameCases(t, []nameCase{
		oneFile("x = 1", "A.x I", "A.y - none"), oneFile("", "A.x - none"),
		// Before or behind what it uses, also with bad lines between them.
		oneFile("x = 1\ny = (x+1)", "A.y I"), oneFile("y = (x+1)\n(\nx = 1\n", "A.y I", "A.x I"), oneFile("z = (y,y)\n\ny = (x,x)\n-- \nx = 1", "A.z ((I*I)*(I*I))"),
		// Each use of a name can have other types for its variables.
		oneFile("i = \\x.x\np = ((i 1),(i i))", "A.i (a>a)", "A.p (I*(a>a))"), oneFile("k = \\x.\\y.x\np = (k,k)", "A.p ((a>(b>a))*(c>(d>c)))"), oneFile("s = \\f.\\x.(f x)\np = ((s s) s)", "A.p ((a>b)>(a>b))"),
		oneFile("p = (\\x.x,1)\nq = ((^p 1),(^p ^p))", "A.q (I*(a>a))"),
		// A definition is not checked again for those that use it.
		oneFile("x = (1 1)\ny = 2", "A.x - type", "A.y I"), oneFile("f = \\x.(x+1)\ny = (f f)\nz = (f 1)", "A.y - type", "A.z I"),
		// The first line with a name defines it, and the first signature signs it.
		oneFile("x = 1\nx = (1,1)\ny = x", "A.x I", "A.y I"), oneFile("x = 1\nx = x\nx = (1 1)\nx = w", "A.x I"), oneFile("x = (1 1)\nx = 1\ny = x", "A.x - type", "A.y - block"),
		oneFile("x : a\nx : I\nx = 1", "A.x a type"), oneFile("x = 1\nx : I\nx : a", "A.x I"),
		// Other files.
		twoFiles("use B\nx = B.x", "x = 1", "A.x I", "B.x I"), twoFiles("x = B.x\nuse B", "x = 1", "A.x I"), twoFiles("use B\ny = ((B.i 1),(B.i B.i))", "i = \\x.x", "A.y (I*(a>a))"),
		twoFiles("use B\nuse B\nx = (B.x,B.y)", "y = x\nx = 1", "A.x (I*I)"), twoFiles("use B\nx = B.x\ny = B.y", "use A\nx = 1\ny = A.x", "A.x I", "A.y I", "B.y I"),
		{filesOf("C", "x = 1", "B", "use C\ny = C.x", "A", "use B\nz = (B.y+1)"), []string{"A.z I", "B.y I", "C.x I"}},
		// The same name has its own type and signature in each file.
		twoFiles("use B\nx = (1,1)\nx : (I*I)\ny = (x,B.x)", "x = 1\ny = x", "A.y ((I*I)*I)", "B.y I"), twoFiles("use B\nx : I\ny = B.x", "x = \\z.z", "A.x - none", "A.y (a>a)"),
	})
}

// TestSignedNames has names whose types are their signatures, whatever their definitions are.
func TestSignedNames(t *testing.T) {
	checkNameCases(t, []nameCase{
		oneFile("x : I\nx = 1", "A.x I"), oneFile("x = 1\nx : I", "A.x I"), oneFile("x : I", "A.x - none"), oneFile("x : I\ny = x", "A.x - none", "A.y - word x"),
		// The signature is an instance of the type, or is not.
		oneFile("f : (I>I)\nf = \\x.x\np = (f f)", "A.f (I>I)", "A.p - type"), oneFile("f : (a>a)\nf = \\x.x\np = (f f)", "A.f (a>a)", "A.p (a>a)"), oneFile("f : ((a>b)>(a>b))\nf = \\x.x", "A.f ((a>b)>(a>b))"),
		oneFile("f : (a>a)\nf = \\x.(x+1)", "A.f (a>a) type"), oneFile("f : (a>b)\nf = \\x.x", "A.f (a>b) type"), oneFile("f : I\nf = \\x.x", "A.f I type"), oneFile("x : a\nx = 1", "A.x a type"), oneFile("x : (I*I)\nx = 1", "A.x (I*I) type"),
		oneFile("f : (a>(b>a))\nf = \\x.\\y.x", "A.f (a>(b>a))"), oneFile("f : (a>(b>b))\nf = \\x.\\y.x", "A.f (a>(b>b)) type"), oneFile("f : (a>(a>a))\nf = \\x.\\y.x", "A.f (a>(a>a))"), oneFile("f : (a>(b>a))\nf = \\x.\\y.?<1,x,y>", "A.f (a>(b>a)) type"),
		// The variables are numbered anew.
		oneFile("f : (z>(y>z))\nf = \\x.\\y.x\ng = f", "A.f (a>(b>a))", "A.g (a>(b>a))"), oneFile("f : (b>a)\nf = \\x.x", "A.f (a>b) type"),
		// Only the signature counts for others, not whether the definition is right.
		oneFile("x : I\nx = (1 1)\ny = (x+1)", "A.x I type", "A.y I"), oneFile("x : (I*I)\nx = 1\ny = ^x\nz = (x+1)", "A.x (I*I) type", "A.y I", "A.z - type"), oneFile("x : I\nx = w\ny = x", "A.x I word w", "A.y I"),
		oneFile("h = (1 1)\nx : I\nx = h\ny = x", "A.x I block", "A.y I"), twoFiles("use B\ny = B.x", "x : (a>a)\nx = 1", "A.y (a>a)", "B.x (a>a) type"),
		// What is signed twice goes by the first one.
		oneFile("x : I\nx : (I*I)\nx = (1,1)", "A.x I type"), oneFile("x : (I*I)\nx = (1,1)\nx : I", "A.x (I*I)"),
	})
}

func TestCircles(t *testing.T) {
	checkNameCases(t, []nameCase{
		// Directly.
		oneFile("x = x", "A.x - cycle"), oneFile("x = (x+1)", "A.x - cycle"), oneFile("f = \\n.?<n,(f 1),0>", "A.f - cycle"), oneFile("x = (1 x)", "A.x - cycle"), oneFile("x = {x=x;x}", "A.x - cycle"), oneFile("x = (\\x.x,x)", "A.x - cycle"),
		// Through others.
		oneFile("x = y\ny = x\nz = x", "A.x - cycle", "A.y - cycle", "A.z - block"), oneFile("x = y\ny = z\nz = x\nw = (1,y)\nv = w", "A.x - cycle", "A.y - cycle", "A.z - cycle", "A.w - block", "A.v - block"),
		oneFile("x = (z,y)\ny = (z,x)\nz = 1", "A.x - cycle", "A.y - cycle", "A.z I"), oneFile("x = y\ny = (z,1)\nz = (x,z)\nw = z", "A.x - cycle", "A.y - cycle", "A.z - cycle", "A.w - block"),
		// Two circles, with a way from one to the other.
		oneFile("x = (y,z)\ny = x\nz = w\nw = (z+v)\nv = 1", "A.x - cycle", "A.y - cycle", "A.z - cycle", "A.w - cycle", "A.v I"),
		// Not only from where the circle is entered.
		oneFile("v = w\nw = x\nx = y\ny = x", "A.v - block", "A.w - block", "A.x - cycle", "A.y - cycle"),
		// Through other files.
		twoFiles("use B\nx = B.y", "use A\ny = A.x\nz = y", "A.x - cycle", "B.y - cycle", "B.z - block"), twoFiles("use B\nx = B.x", "use A\nx = A.x", "A.x - cycle", "B.x - cycle"),
		{filesOf("A", "use B\nx = B.x", "B", "use C\nx = C.x", "C", "use A\nx = A.x\ny = 1"), []string{"A.x - cycle", "B.x - cycle", "C.x - cycle", "C.y I"}},
		// Files that use each other are no circle of names; names that look alike neither.
		twoFiles("use B\nx = B.y\nz = 1", "use A\ny = A.z\nx = A.x", "A.x I", "B.y I", "B.x I"), twoFiles("use B\nx = B.x", "x = 1", "A.x I"),
		// What is bound, defined before, or cannot be used closes no circle.
		oneFile("x = \\x.x", "A.x (a>a)"), oneFile("x = {x=1;x}", "A.x I"), oneFile("x = 1\nx = x", "A.x I"), oneFile("x = y\ny = 1\ny = x", "A.x I", "A.y I"),
		oneFile("use A\nx = A.x", "A.x - word A.x"), twoFiles("x = B.y", "use A\ny = A.x", "A.x - word B.y", "B.y - block"), oneFile("x = y", "A.x - word y"),
	})
}

// TestSignedCircles has circles with signed names, and others beside them.
func TestSignedCircles(t *testing.T) {
	checkNameCases(t, []nameCase{
		oneFile("f : (I>I)\nf = \\n.?<n,(f 1),0>", "A.f (I>I)"), oneFile("x : I\nx = x", "A.x I"), oneFile("x = x\nx : (b>c)", "A.x (a>b)"), oneFile("x : I\nx = (x,1)", "A.x I type"), oneFile("f : (I>I)\nf = (f 1)", "A.f (I>I) type"),
		oneFile("x : I\nx = y\ny = x\nz = (y+1)", "A.x I", "A.y I", "A.z I"), oneFile("x : I\nx = y\ny = (x,1)", "A.x I type", "A.y (I*I)"), oneFile("x : (a>a)\nx = (y,1)\ny = (x x)\nz = ((y 1),(y y))", "A.x (a>a) type", "A.y (a>a)", "A.z (I*(a>a))"),
		oneFile("x = y\ny = z\nz = x\nz : I", "A.x I", "A.y I", "A.z I"), oneFile("x : I\ny : I\nx = y\ny = x", "A.x I", "A.y I"),
		// A signed name in one circle leaves the other one.
		oneFile("x : I\nx = y\ny = (x,z)\nz = y", "A.x I block", "A.y - cycle", "A.z - cycle"), oneFile("x : I\nx = (x+y)\ny = y", "A.x I block", "A.y - cycle"), oneFile("x = (y,s)\ns : I\ns = (x y)\ny = x", "A.x - cycle", "A.y - cycle", "A.s I block"),
		// What is needed behind a signed name is not needed.
		oneFile("x = s\ns : I\ns = (y+x)\ny = s", "A.x I", "A.y I", "A.s I"), oneFile("x = s\ns : I\ns = t\nt = x", "A.x I", "A.t I", "A.s I"),
		twoFiles("use B\nx = B.y", "use A\ny : I\ny = A.x", "A.x I", "B.y I"), twoFiles("use B\nx = B.y\ny : I", "use A\ny = A.x\nx : I", "A.x - cycle", "B.y - cycle"),
	})
}

// TestHiddenNames has names that a bound name, an earlier line or a name of another file hides.
func TestHiddenNames(t *testing.T) {
	checkNameCases(t, []nameCase{
		oneFile("x = 1\nf = \\x.(x 2)", "A.f ((I>a)>a)"), oneFile("x = 1\ny = ({x=\\z.z;(x x)},x)", "A.y ((a>a)*I)"), oneFile("x = 1\ny = {x=(x,x);(x,x)}", "A.y ((I*I)*(I*I))"), oneFile("x = 1\nf = (\\x.^x,(x+1))", "A.f (((a*b)>a)*I)"),
		// What is hidden is not used, so that it need not have a type.
		oneFile("x = (1 1)\nf = \\x.x\ny = {x=1;x}\nz = (f x)", "A.x - type", "A.f (a>a)", "A.y I", "A.z - block"), oneFile("x = x\nf = \\x.\\y.x", "A.f (a>(b>a))"), oneFile("f = \\w.w\ny = {w=w;w}", "A.f (a>a)", "A.y - word w"),
		// A name with a file is never hidden.
		twoFiles("use B\nx = \\z.z\ny = (x,B.x)\nf = \\x.B.x\nz = {x=(1,1);(x,B.x)}", "x = 1", "A.y ((a>a)*I)", "A.f (a>I)", "A.z ((I*I)*I)"), twoFiles("use B\nf = \\x.(x,B.x)", "x = (1 1)", "A.f - block"),
		oneFile("x = 1\nx = (1,1)\ny = ^x", "A.y - type"),
	})
}

func TestBlockedNames(t *testing.T) {
	checkNameCases(t, []nameCase{
		// By one with each of the codes.
		oneFile("h = (1 1)\nm = h\nn = m", "A.h - type", "A.m - block", "A.n - block"), oneFile("h = w\nm = h", "A.h - word w", "A.m - block"), oneFile("h = h\nm = (1,h)", "A.m - block"), oneFile("h = (1 1)\nm = \\x.h", "A.m - block"),
		// By two.
		oneFile("z = (x+y)\nx = (1 1)\ny = w", "A.z - block", "A.x - type", "A.y - word w"), oneFile("z = (x y)\nx = (1 1)\ny = y", "A.z - block"), oneFile("z = (x,y)\nx = z\ny = (1 1)", "A.z - cycle", "A.x - cycle", "A.y - type"),
		oneFile("z = (x,y)\nx = (1 1)\ny = x\nw = (z,v)\nv = z", "A.z - block", "A.y - block", "A.w - block", "A.v - block"),
		// By one of two, whichever it is.
		oneFile("z = (x,y)\nx = (1 1)\ny = 1", "A.z - block", "A.y I"), oneFile("z = (y,x)\nx = (1 1)\ny = 1", "A.z - block"),
		// In another file.
		twoFiles("use B\nx = B.y", "y = w", "A.x - block", "B.y - word w"), twoFiles("use B\nx = B.y", "y = A.x", "A.x - block", "B.y - word A.x"), twoFiles("use B\nx = (B.y,B.z)", "y = (1 1)\nz = z", "A.x - block"),
		// Not by a signed name.
		oneFile("h : I\nh = (1 1)\nm = h", "A.m I"), oneFile("h : I\nh = (1 1)\nk = (1 1)\nm = (h,k)", "A.m - block"),
	})
}

// TestNamesOutOfReach has names that a file cannot use, and the first of several.
func TestNamesOutOfReach(t *testing.T) {
	checkNameCases(t, []nameCase{
		oneFile("x = w", "A.x - word w"), oneFile("x = \\y.(y w)", "A.x - word w"), oneFile("x = ({y=1;y},y)", "A.x - word y"), oneFile("x = {y=y;1}", "A.x - word y"), oneFile("x = (y+\ny", "A.x - none"),
		// The file is not used, or only by another one.
		twoFiles("x = B.y", "y = 1", "A.x - word B.y"), twoFiles("-- use B\nuse b\nx = B.y", "y = 1", "A.x - word B.y"), twoFiles("x = B.y", "use A\ny = 1", "A.x - word B.y"),
		{filesOf("A", "use B\nx = C.y\nz = B.z", "B", "use C\nz = C.y", "C", "y = 1"), []string{"A.x - word C.y", "A.z I", "B.z I"}},
		// It does not exist, is the file itself, or does not define the name.
		oneFile("use B\nx = B.y", "A.x - word B.y"), twoFiles("use C\nuse B\nx = (B.y,C.y)", "y = 1", "A.x - word C.y"), oneFile("use A\ny = 1\nx = A.y\nz = y", "A.x - word A.y", "A.z I"),
		twoFiles("use B\nx = B.z\ny = B.y", "y = 1", "A.x - word B.z", "A.y I"), twoFiles("use B\nx = B.z", "z : I\ny = {z=1;z}\n-- z = 1\nz = ", "A.x - word B.z"), {filesOf("A", "use B\nx = B.y", "B", "use C", "C", "y = 1"), []string{"A.x - word B.y"}},
		twoFiles("use B\ny = 1\nx = B.y", "", "A.x - word B.y"), twoFiles("use B\nx = y", "y = 1", "A.x - word y"),
		// The first one, in the order of the text, where it is not bound.
		oneFile("x = (w+(v+w))", "A.x - word w"), oneFile("x = (v+(w+v))", "A.x - word v"), oneFile("y = 1\nx = (y,(B.q,w))", "A.x - word B.q"), oneFile("x = (\\w.w,(v,w))", "A.x - word v"), oneFile("x = {a=w;v}", "A.x - word w"), oneFile("x = ?<w,v,u>", "A.x - word w"),
		twoFiles("use B\nx = (B.y,(C.y,B.z))", "y = 1", "A.x - word C.y"),
	})
}

// doubled defines a to f, where each one is a pair of the one before it: e has 63 nodes.
const doubled = "a = (1,1)\nb = (a,a)\nc = (b,b)\nd = (c,c)\ne = (d,d)\nf = (e,e)\n"

// functions defines names whose types are deeper by one each: the name o has depth 16, and p a deeper one.
func functions() string {
	text := "a = \\x.1\n"
	for c := 'b'; c <= 'p'; c++ {
		text += string(c) + " = \\x." + string(c-1) + "\n"
	}
	return text
}

func TestLargeNames(t *testing.T) {
	five := rawText(full(6, number))
	deep := strings.Repeat("(a>", impl.MaxTypeDepth-1) + "I" + strings.Repeat(")", impl.MaxTypeDepth-1)
	some := "v : a\nv = v\nw = (v,v)\na = (w,w)\nb = (a,a)\nc = (b,b)\n"
	pairs := []string{"a"}
	for i := range 4 {
		pairs = append(pairs, "("+pairs[i]+"*"+pairs[i]+")")
	}
	checkNameCases(t, []nameCase{
		oneFile(doubled+"g = f\nh = (f,w)\ni = ^(1,f)", "A.e "+five, "A.f - large", "A.g - block", "A.h - word w", "A.i - block"),
		// A signature does not make it smaller, but others can use it.
		oneFile(doubled+"h : I\nh = (e,e)\ng = h", "A.h I large", "A.g I"), oneFile(doubled+"f : "+five+"\ng = f", "A.f "+five+" large", "A.g "+five),
		// Too large on the way only.
		oneFile(doubled+"g = ^(e,1)\nh = {x=(e,e);1}\ni = {x=e;1}", "A.g - large", "A.h - large", "A.i I"),
		oneFile(functions()+"q = p\nr = o", "A.o "+differentVars(deep), "A.p - large", "A.q - block", "A.r "+differentVars(deep)),
		// 26 variables are allowed, 27 are not.
		oneFile(some+"d = ((c,b),w)\ne = ((c,b),(w,v))\nf = e", "A.d "+differentVars("(("+pairs[4]+"*"+pairs[3]+")*"+pairs[1]+")"), "A.e - large", "A.f - block"),
	})
}

// differentVars replaces each a in the text of a type by another variable.
func differentVars(text string) string {
	var b strings.Builder
	next := 'a'
	for _, c := range text {
		if c == 'a' {
			c = next
			next++
		}
		b.WriteRune(c)
	}
	return b.String()
}

// TestOrderOfCodes has definitions to which several codes apply.
func TestOrderOfCodes(t *testing.T) {
	checkNameCases(t, []nameCase{
		// Cycle, word, block, large, type.
		oneFile("x = (x+w)", "A.x - cycle"), oneFile("x = (w+x)", "A.x - cycle"), oneFile("h = (1 1)\nx = (h,x)", "A.x - cycle"), oneFile("x = (1 (x,1))", "A.x - cycle"), oneFile(doubled+"x = ((e,e) x)", "A.x - cycle"),
		oneFile("x = ((x,w),h)\nh = (1 1)", "A.x - cycle"), oneFile("x = y\ny = (x w)", "A.x - cycle", "A.y - cycle"),
		oneFile("h = (1 1)\nx = (h,w)", "A.x - word w"), oneFile("h = h\nx = (h,w)", "A.x - word w"), oneFile("x = ((1 1),w)", "A.x - word w"), oneFile(doubled+"x = ((e,e),w)", "A.x - word w"), oneFile("x = w\ny = (x,w)", "A.y - word w"),
		oneFile("h = w\nx = ((1 1),h)", "A.x - block"), oneFile(doubled+"x = (((1 1),(e,e)),f)", "A.x - block"), oneFile("h = (1 1)\nx = (1 h)", "A.x - block"),
		// Between these two, what arises first.
		oneFile(doubled+"x = {y=(e,e);(1 1)}", "A.x - large"), oneFile(doubled+"x = ((1 1),{y=(e,e);1})", "A.x - type"),
		// The same with a signature, and circles do not count.
		oneFile("x : I\nx = (x+w)", "A.x I word w"), oneFile("x : I\nh = (1 1)\nx = (h,x)", "A.x I block"), oneFile("x : I\nx = (x,h)\nh = h", "A.x I block"), oneFile("x : I\nx = (1 w)", "A.x I word w"), oneFile("x : I\nx = w\nx = 1", "A.x I word w"),
		oneFile(doubled+"x : I\nx = {y=(e,e);(1 1)}", "A.x I large"), oneFile(doubled+"x : I\nx = ((1 1),(e,e))", "A.x I type"), oneFile("x : (I*I)\nx = (1+2)", "A.x (I*I) type"),
		oneFile("x : I", "A.x - none"), oneFile("x : I\nx = ", "A.x - none"),
	})
}

func TestVisibleNames(t *testing.T) {
	files := filesOf("B", "use A\nuse C\nuse B\nuse D\nuse A\nq = 1\np = w\nq = 2\nr : I\n(\n-- s = 1",
		"A", "y = 1\nuse B\nx = x\nz : I\ny = 2", "D", "use Q\nuse D\nx = 1", "E", "use D\nuse B\nuse A\n\np = ")
	for _, c := range []struct {
		name string
		want []string
	}{
		{"B", []string{"q", "p", "A.y", "A.x", "D.x"}}, {"A", []string{"y", "x", "B.q", "B.p"}}, {"D", []string{"x"}}, {"E", []string{"D.x", "B.q", "B.p", "A.y", "A.x"}},
		{"C", nil}, {"Q", nil}, {"", nil}, {"b", nil}, {"AB", nil}, {"x", nil}, {"\xff", nil},
	} {
		if got := impl.VisibleNames(files, c.name); !slices.Equal(got, c.want) {
			t.Errorf("VisibleNames(%q) = %v", c.name, got)
		}
		if got := impl.VisibleNames(nil, c.name); len(got) != 0 {
			t.Errorf("VisibleNames(%q) without files = %v", c.name, got)
		}
	}
}

func TestDepsOf(t *testing.T) {
	b := "x = 1\ny = A.x\nz : I\nuse A"
	for _, c := range []struct {
		text, name string
		want       []string
	}{
		{"x = 1", "x", nil}, {"x = y", "x", nil}, {"x = y\ny = 1", "x", []string{"A.y"}}, {"x = x", "x", []string{"A.x"}}, {"x = (z,(y,x))\ny = 1\nz = 1", "x", []string{"A.z", "A.y", "A.x"}},
		// Each once, in the order of the first occurrences that are not bound.
		{"x = (y,(z,(y,z)))\ny = 1\nz = 1", "x", []string{"A.y", "A.z"}}, {"x = (\\y.y,(z,y))\ny = 1\nz = 1", "x", []string{"A.z", "A.y"}}, {"x = {y=y;y}\ny = 1", "x", []string{"A.y"}}, {"x = \\y.y\ny = 1", "x", nil}, {"x = {x=1;x}", "x", nil},
		// Only those that the file can use.
		{"use B\nx = (B.x,(w,(B.z,(C.x,(A.x,(y,B.y))))))\ny = 1", "x", []string{"B.x", "A.y", "B.y"}}, {"x = (B.x,y)\ny = 1", "x", []string{"A.y"}}, {"use C\nuse A\nx = (A.x,(C.x,B.x))", "x", nil}, {"use B\nx = (x,B.x)", "x", []string{"A.x", "B.x"}},
		// Signed or not, with a type or without one.
		{"x = (y,z)\ny : I\ny = w\nz = z", "x", []string{"A.y", "A.z"}}, {"x : I\nx = (y,w)\ny = (1 1)", "x", []string{"A.y"}},
		// Of the line that defines it.
		{"x = y\ny = 1\nx = z\nz = 1", "x", []string{"A.y"}}, {"x = (y\nx = z\ny = 1\nz = 1", "x", []string{"A.z"}},
		// Of what does not exist.
		{"x = y\ny = 1", "z", nil}, {"x : I\ny = 1", "x", nil}, {"x = y\ny = 1", "", nil}, {"x = y\ny = 1", "A.x", nil}, {"x = y\ny = 1", "X", nil}, {"x = y\ny = 1", "x ", nil}, {"x = y\ny = 1", "xy", nil}, {"x = y\ny = 1", "\xff", nil},
	} {
		for _, files := range [][]impl.File{filesOf("A", c.text, "B", b), filesOf("B", b, "A", c.text)} {
			if got := impl.DepsOf(files, "A", c.name); !slices.Equal(got, c.want) {
				t.Errorf("DepsOf(%q, A, %q) = %v", c.text, c.name, got)
			}
		}
	}
	if got := impl.DepsOf(filesOf("A", "x = y\ny = 1", "B", b), "B", "y"); !slices.Equal(got, []string{"A.x"}) {
		t.Errorf("DepsOf = %v", got)
	}
}

func TestCyclicName(t *testing.T) {
	files := filesOf("A", "use B\nx = y\ny = x\nz = x\nf : I\nf = (f+g)\ng = (f,h)\nh = g\nu : I\nu = u\nn : I\nv = (v,w)\nw = 1\nw = w\np = {p=1;p}\nq = {p=q;p}\nr = B.r\ns = B.s",
		"B", "use A\nr = A.r\ns = A.s\ns : I\nx = A.x\ny = C.y", "D", "x = x")
	want := map[string]string{"A": "xyghvqr", "B": "r", "D": "x", "C": "", "": "", "a": "", "AB": ""}
	for file, names := range want {
		for c := 'a'; c <= 'z'; c++ {
			if got := impl.CyclicName(files, file, string(c)); got != strings.ContainsRune(names, c) {
				t.Errorf("CyclicName(%s.%c) = %v", file, c, got)
			}
			if impl.CyclicName(nil, file, string(c)) {
				t.Errorf("CyclicName(%s.%c) without files", file, c)
			}
		}
		for _, name := range append(badValueNames(), "", "A.x", "B.r", "xy", "\xff") {
			if impl.CyclicName(files, file, name) {
				t.Errorf("CyclicName(%s.%q)", file, name)
			}
		}
	}
}

func TestFaultsOf(t *testing.T) {
	b := "b = 1\nuse A\ny = A.x"
	for _, c := range []struct {
		text string
		want []string
	}{
		{"", nil}, {"x = 1\nx : I\nuse B\ny = (x+B.b)\n-- (\n", nil},
		// Each kind that needs types, and codes without a fault.
		{"x = w", []string{"A 0 name w"}}, {"x = B.b", []string{"A 0 name B.b"}}, {"x = (A.x,w)", []string{"A 0 name A.x"}}, {"x = (1 1)", []string{"A 0 type x"}}, {"x = 1\ny : a\ny = x", []string{"A 2 type y"}}, {"x = x", []string{"A 0 cycle x"}},
		{doubled + "g = f\nh : a\nh = (e,e)", []string{"A 5 large f", "A 8 large h"}}, {"h = (1 1)\nm = h\nn : I\nn = h", []string{"A 0 type h"}},
		{"x = y\ny = x\nz = x", []string{"A 0 cycle x", "A 1 cycle y"}}, {"x : I\nx = y\ny = x", nil}, {"x : I\nx = (1 x)", []string{"A 1 type x"}}, {"x : I\nx = w", []string{"A 1 name w"}},
		// The first line with a name has the fault, if that is checked with one.
		{"x = 1\nx = w", []string{"A 1 twice x"}}, {"x = w\nx = 1", []string{"A 0 name w", "A 1 twice x"}}, {"y = x\nx = (1 1)\nx = (1 1)\nx = x", []string{"A 1 type x", "A 2 twice x", "A 3 twice x"}},
		{"x = 1\nx : a\nx : I", []string{"A 0 type x", "A 2 twice x"}}, {"x : I", []string{"A 0 sig x"}}, {"x : I\nx = (w\ny = x", []string{"A 0 sig x", "A 1 bad", "A 2 name x"}},
		// All kinds, in the order of the lines, not in that of the kinds, names or dependencies.
		{doubled + "z = q\nuse C\n(\ny = (1 1)\ny = 1\ns : I\nx = x\nf = 1\nw = (y,f)\nuse A\nj : (a>a)\nj = \\x.(x+1)\ng = (f,t)\ni = j\nj = k\nk = (x,B.b)\nuse B\nl = C.l\n",
			[]string{"A 5 large f", "A 6 name q", "A 7 use C", "A 8 bad", "A 9 type y", "A 10 twice y", "A 11 sig s", "A 12 cycle x", "A 13 twice f", "A 15 use A", "A 17 type j", "A 18 name t", "A 20 twice j", "A 23 name C.l"}},
		{strings.Repeat("\n", impl.MaxFileLine-1) + "x = x", []string{"A 39 cycle x"}}, {"x = y" + strings.Repeat("\n", impl.MaxFileLine-1) + "y = (1 1)", []string{"A 39 type y"}},
	} {
		for _, files := range [][]impl.File{filesOf("A", c.text, "B", b), filesOf("B", b, "A", c.text)} {
			if got := faultTexts(impl.FaultsOf(files, "A")); !slices.Equal(got, c.want) {
				t.Errorf("FaultsOf of %q = %q", c.text, got)
			}
		}
	}
}

// TestFaultsOfFiles has files whose faults depend on other files.
func TestFaultsOfFiles(t *testing.T) {
	files := filesOf("D", "use A\nx = A.x\ny = (A.y+1)\nz = A.z", "A", "use D\nuse B\nx = (1,1)\ny = D.x\ny : (a*a)", "C", "use A\nx = A.q\nuse D\ny = (D.y A.x)\nz = D.x")
	for name, want := range map[string][]string{
		"D": {"D 2 type y", "D 3 name A.z"}, "A": {"A 1 use B", "A 3 type y"}, "C": {"C 1 name A.q"},
		"B": nil, "": nil, "a": nil, "AD": nil, "x": nil, "\xff": nil,
	} {
		if got := faultTexts(impl.FaultsOf(files, name)); !slices.Equal(got, want) {
			t.Errorf("FaultsOf(%q) = %q", name, got)
		}
		if got := impl.FaultsOf(nil, name); len(got) != 0 {
			t.Errorf("FaultsOf(%q) without files = %v", name, got)
		}
	}
	// The same file, when the one that it uses changes.
	text := "use B\nx = (B.y+1)"
	for _, c := range []struct {
		others []impl.File
		want   []string
	}{
		{nil, []string{"A 0 use B", "A 1 name B.y"}}, {filesOf("B", ""), []string{"A 1 name B.y"}}, {filesOf("B", "y = 1"), nil}, {filesOf("B", "y = (1,1)"), []string{"A 1 type x"}},
		{filesOf("B", "y = w"), nil}, {filesOf("B", "y : a\ny = w"), nil}, {filesOf("B", "use A\ny = A.x"), []string{"A 1 cycle x"}}, {filesOf("B", "use A\ny = A.x\ny : I"), nil},
	} {
		if got := faultTexts(impl.FaultsOf(append(filesOf("A", text), c.others...), "A")); !slices.Equal(got, c.want) {
			t.Errorf("FaultsOf with %v = %q", c.others, got)
		}
	}
}

func TestFaceOf(t *testing.T) {
	files := filesOf("B", "use A\nz = A.f\ny = (A.f A.x)\nz = 1\nx = A.q", "A", "y = x\nx = 1\n(\nw = v\nf : (c>c)\nf = \\x.(x+1)\nh = (1 1)\nm = h\nc = c\ng : I\nx : I\ns : (b*(a*b))\nx = 2\ns = s", "E", "", "D", "x = x")
	for name, want := range map[string]string{
		"A": "y : I\nx : I\nf : (a>a)\ns : (a*(b*a))\n", "B": "z : (a>a)\ny : I\n", "D": "", "E": "",
		"C": "", "": "", "a": "", "AB": "", "x": "", "\xff": "",
	} {
		if got := impl.FaceOf(files, name); got != want {
			t.Errorf("FaceOf(%q) = %q", name, got)
		}
		if got := impl.FaceOf(nil, name); got != "" {
			t.Errorf("FaceOf(%q) without files = %q", name, got)
		}
	}
}

// invalidFiles are lists of files that are not valid, in which much would be found otherwise.
func invalidFiles() [][]impl.File {
	text := "x = x\nx = 1\ny = 1\n(\nw = v\nu : I\nu = y"
	lists := [][]impl.File{
		filesOf("A", text, "A", text), filesOf("A", text, "B", text, "C", text, "D", text, "E", text), filesOf("B", "x = 1", "A", text, "B", ""),
	}
	for _, bad := range badFileTexts() {
		lists = append(lists, filesOf("A", bad), filesOf("A", text, "B", bad), filesOf("B", bad, "A", text))
	}
	for _, bad := range badFileNames() {
		lists = append(lists, filesOf("A", text, bad, text), filesOf(bad, text, "A", text))
	}
	return append(lists, badFileLists()...)
}

// TestInvalidFiles checks that in files that are not valid, nothing is found.
func TestInvalidFiles(t *testing.T) {
	for i, files := range invalidFiles() {
		for _, file := range append([]string{"A", "B", "D", "Q", files[0].Name}, files[len(files)-1].Name) {
			if visible, faults, face := impl.VisibleNames(files, file), impl.FaultsOf(files, file), impl.FaceOf(files, file); len(visible) != 0 || len(faults) != 0 || face != "" {
				t.Errorf("list %d, file %q: %v, %v and %q", i, file, visible, faults, face)
			}
			for _, name := range []string{"x", "y", "u", "q", ""} {
				checkNothing(t, files, file, name)
			}
		}
	}
}

// checkNothing checks that a file does not define a name.
func checkNothing(t *testing.T, files []impl.File, file, name string) {
	t.Helper()
	if deps := impl.DepsOf(files, file, name); len(deps) != 0 || impl.CyclicName(files, file, name) {
		t.Errorf("%.50q, %q, %q: DepsOf = %v", files, file, name, deps)
	}
	if got := nameAnswer(files, file, name); got != "- none" {
		t.Errorf("%.50q, %q, %q: %s", files, file, name, got)
	}
}

// TestNoSuchName has names that are not defined, and strings that are no names.
func TestNoSuchName(t *testing.T) {
	files := filesOf("A", "use B\nx = x\ny : I\n-- z = 1\nv = {w=1;w}", "B", "q = 1\nx = w")
	for _, name := range append(badValueNames(), "y", "z", "w", "q", "", "A.x", "B.q", "x ", "xx", ".x", "x.", "\x00", "\xff") {
		checkNothing(t, files, "A", name)
	}
	for _, file := range append(badFileNames(), "C", "Q", "x", "A.", "AB", "\xff") {
		for _, name := range []string{"x", "q", "", "A.x", ".x", "x.x"} {
			checkNothing(t, files, file, name)
		}
	}
	for _, name := range []string{"x", "", "A.x"} {
		checkNothing(t, nil, "A", name)
		checkNothing(t, []impl.File{}, "", name)
	}
}

// plainNames answers the questions of the chapter word by word, for valid
// files: the circles by closing a relation, the types in rounds.
type plainNames struct {
	texts map[string]string
	names []string
	defs  map[string]impl.Line
	lines map[string]int
	needs map[[2]string]bool
	types map[string]impl.Type
	codes map[string]int
	words map[string]string
}

func plainNamesOf(files []impl.File) *plainNames {
	p := &plainNames{texts: map[string]string{}, defs: map[string]impl.Line{}, lines: map[string]int{}, needs: map[[2]string]bool{}, types: map[string]impl.Type{}, codes: map[string]int{}, words: map[string]string{}}
	for _, f := range files {
		p.texts[f.Name] = f.Text
	}
	for _, f := range files {
		for _, name := range impl.NamesOf(f.Text) {
			line, _ := impl.DefLine(f.Text, name)
			full := f.Name + "." + name
			p.names = append(p.names, full)
			p.defs[full] = impl.ParseFile(f.Text)[line]
			p.lines[full] = line
		}
	}
	p.close()
	for len(p.codes) < len(p.names) {
		before := len(p.codes)
		for _, full := range p.names {
			if _, done := p.codes[full]; !done {
				p.decide(full)
			}
		}
		if len(p.codes) == before {
			panic("names wait for each other")
		}
	}
	return p
}

func (p *plainNames) canUse(file, text string) bool {
	if len(text) == 1 {
		return slices.Contains(impl.NamesOf(p.texts[file]), text)
	}
	other, exists := p.texts[text[:1]]
	return exists && text[:1] != file && slices.Contains(impl.UsesOf(p.texts[file]), text[:1]) && slices.Contains(impl.NamesOf(other), text[2:])
}

// full is the full name of what is written as text in the file of a name.
func (p *plainNames) full(by, text string) string {
	if len(text) == 1 {
		return by[:2] + text
	}
	return text
}

func (p *plainNames) deps(full string) []string {
	var deps []string
	for _, text := range impl.FreeNames(p.defs[full].Expr) {
		if p.canUse(full[:1], text) && !slices.Contains(deps, p.full(full, text)) {
			deps = append(deps, p.full(full, text))
		}
	}
	return deps
}

func (p *plainNames) signed(full string) bool {
	_, ok := impl.SigOf(p.texts[full[:1]], full[2:])
	return ok
}

func (p *plainNames) close() {
	for _, full := range p.names {
		for _, dep := range p.deps(full) {
			p.needs[[2]string{full, dep}] = !p.signed(dep)
		}
	}
	for _, b := range p.names {
		for _, a := range p.names {
			if !p.needs[[2]string{a, b}] {
				continue
			}
			for _, c := range p.names {
				if p.needs[[2]string{b, c}] {
					p.needs[[2]string{a, c}] = true
				}
			}
		}
	}
}

func (p *plainNames) cyclic(full string) bool {
	return !p.signed(full) && p.needs[[2]string{full, full}]
}

// typeOf returns false as long as the code of a name is not decided.
func (p *plainNames) typeOf(full string) (x impl.Type, code int, ok bool) {
	if p.signed(full) {
		x, _ = impl.SigOf(p.texts[full[:1]], full[2:])
		return x, impl.NameOk, true
	}
	code, ok = p.codes[full]
	return p.types[full], code, ok
}

// decide finds the code of a name, unless it must wait for others.
func (p *plainNames) decide(full string) {
	if p.cyclic(full) {
		p.codes[full] = impl.NameCycle
		return
	}
	var env []impl.Known
	blocked := false
	free := impl.FreeNames(p.defs[full].Expr)
	for _, text := range free {
		if !p.canUse(full[:1], text) {
			p.codes[full], p.words[full] = impl.NameWord, text
			return
		}
	}
	for _, text := range free {
		x, code, ok := p.typeOf(p.full(full, text))
		if !ok {
			return
		}
		blocked = blocked || code != impl.NameOk
		env = append(env, impl.Known{Name: text, Type: x})
	}
	if blocked {
		p.codes[full] = impl.NameBlock
		return
	}
	x, code := impl.InferExpr(env, p.defs[full].Expr)
	sig, signed := impl.SigOf(p.texts[full[:1]], full[2:])
	switch {
	case code == impl.InferLarge:
		p.codes[full] = impl.NameLarge
	case code == impl.InferType || signed && !impl.InstanceOf(sig, x):
		p.codes[full] = impl.NameType
	default:
		p.codes[full], p.types[full] = impl.NameOk, x
	}
}

// answer is what nameAnswer should return.
func (p *plainNames) answer(full string) string {
	if _, ok := p.defs[full]; !ok {
		return "- none"
	}
	answer := "-"
	if x, code, _ := p.typeOf(full); code == impl.NameOk {
		answer = impl.FormatType(x)
	}
	if code := p.codes[full]; code != impl.NameOk {
		answer += " " + codeWords()[code]
	}
	return strings.TrimSpace(answer + " " + p.words[full])
}

func (p *plainNames) visible(file string) []string {
	names := slices.Clone(impl.NamesOf(p.texts[file]))
	for _, used := range impl.UsesOf(p.texts[file]) {
		if used == file {
			continue
		}
		for _, name := range impl.NamesOf(p.texts[used]) {
			names = append(names, used+"."+name)
		}
	}
	return names
}

func (p *plainNames) faults(files []impl.File, file string) []impl.Fault {
	var list []impl.Fault
	early := impl.LineFaults(files, file)
	for i, l := range impl.ParseFile(p.texts[file]) {
		at := slices.IndexFunc(early, func(f impl.Fault) bool { return f.Line == i })
		if at >= 0 {
			list = append(list, early[at])
			continue
		}
		if l.Kind != impl.LineDef {
			continue
		}
		code := p.codes[file+"."+l.Name]
		kind := map[int]int{impl.NameWord: impl.FaultName, impl.NameType: impl.FaultType, impl.NameLarge: impl.FaultLarge, impl.NameCycle: impl.FaultCycle}[code]
		name := l.Name
		if code == impl.NameWord {
			name = p.words[file+"."+name]
		}
		if kind != 0 {
			list = append(list, impl.Fault{File: file, Line: i, Kind: kind, Name: name})
		}
	}
	return list
}

func (p *plainNames) face(file string) string {
	face := ""
	for _, name := range impl.NamesOf(p.texts[file]) {
		if x, code, _ := p.typeOf(file + "." + name); code == impl.NameOk {
			face += name + " : " + impl.FormatType(x) + "\n"
		}
	}
	return face
}

// compareNames compares all functions for the names of valid files, and a few
// more, with the plain answers, and counts these by the codes.
func compareNames(t *testing.T, files []impl.File, count map[int]int) {
	t.Helper()
	p := plainNamesOf(files)
	for _, f := range append(filesOf("Q", ""), files...) {
		if got, want := impl.VisibleNames(files, f.Name), p.visible(f.Name); !slices.Equal(got, want) {
			t.Fatalf("%q: VisibleNames(%s) = %v, not %v", files, f.Name, got, want)
		}
		if got, want := impl.FaultsOf(files, f.Name), p.faults(files, f.Name); !slices.Equal(got, want) {
			t.Fatalf("%q: FaultsOf(%s) = %v, not %v", files, f.Name, got, want)
		}
		if got, want := impl.FaceOf(files, f.Name), p.face(f.Name); got != want {
			t.Fatalf("%q: FaceOf(%s) = %q, not %q", files, f.Name, got, want)
		}
		for _, name := range append(impl.NamesOf(f.Text), "w", "") {
			full := f.Name + "." + name
			if got, want := nameAnswer(files, f.Name, name), p.answer(full); got != want {
				t.Fatalf("%q: %s is %s, not %s", files, full, got, want)
			}
			if got, want := impl.DepsOf(files, f.Name, name), p.deps(full); !slices.Equal(got, want) {
				t.Fatalf("%q: DepsOf(%s) = %v, not %v", files, full, got, want)
			}
			if got, want := impl.CyclicName(files, f.Name, name), p.cyclic(full); got != want {
				t.Fatalf("%q: CyclicName(%s) = %v", files, full, got)
			}
		}
	}
	for _, code := range p.codes {
		count[code]++
	}
}

// upToThree returns all texts of up to three of these lines.
func upToThree(lines []string) []string {
	texts := []string{""}
	for begin, length := 0, 0; length < 3; length++ {
		end := len(texts)
		for _, text := range texts[begin:end] {
			for _, line := range lines {
				texts = append(texts, text+line+"\n")
			}
		}
		begin = end
	}
	return texts
}

// TestAllSmallNames compares all texts of up to three of these lines, beside a file that uses them.
func TestAllSmallNames(t *testing.T) {
	lines := []string{
		"use B", "x = y", "y = x", "y = (x,y)", "y = 1", "x = \\y.y", "x = (y 1)", "x = {x=y;z}", "z = (1 1)", "x : I", "y : (a>a)", "z : (b*I)", "x = B.y", "y = (B.z,z)", "z = (x,w)",
	}
	count := map[int]int{}
	for _, text := range upToThree(lines) {
		compareNames(t, filesOf("A", text, "B", "use A\ny = A.x\nz = 1"), count)
	}
	if count[impl.NameOk] < 2000 || count[impl.NameWord] < 1000 || count[impl.NameType] < 200 || count[impl.NameCycle] < 500 || count[impl.NameBlock] < 500 {
		t.Errorf("the codes are %v", count)
	}
}

// randomDefs is a list of files whose definitions use each other's names,
// those of earlier letters mostly, so that not all are in circles.
func randomDefs(r *rand.Rand) []impl.File {
	files := filesOf("A", "", "B", "", "C", "", "D", "")[:1+r.Intn(4)]
	r.Shuffle(len(files), func(i, j int) { files[i], files[j] = files[j], files[i] })
	letters := 2 + r.Intn(7)
	for i := range files {
		lines := strings.Split([]string{"", "(", "-- a = 1", "use Q", "use A\nuse D"}[r.Intn(5)], "\n")
		for range r.Intn(4) {
			lines = append(lines, "use "+files[r.Intn(len(files))].Name)
		}
		for n := range letters {
			for range []int{0, 1, 1, 1, 1, 1, 1, 1, 1, 2}[r.Intn(10)] {
				lines = append(lines, string(rune('a'+n))+" = "+randomShape(r, files, n, letters))
			}
			if r.Intn(6) == 0 {
				lines = append(lines, string(rune('a'+n))+" : "+[]string{"I", "a", "(a>a)", "(I>I)", "(I*I)", "(b*a)", "(b>a)"}[r.Intn(7)])
			}
		}
		r.Shuffle(len(lines), func(i, j int) { lines[i], lines[j] = lines[j], lines[i] })
		files[i].Text = textOf(lines...)
	}
	return files
}

// randomShape is an expression of a few nodes for the letter with a number.
func randomShape(r *rand.Rand, files []impl.File, number, letters int) string {
	shapes := []string{
		"1", "(1,1)", "\\n.n", "N", "N", "\\n.N", "\\n.(n,N)", "(N,N)", "(N,N)", "((N,N),(N,N))", "((N,N),(N,N))", "(((N,N),(N,N)),((N,N),(N,N)))", "(N,1)", "^N", "^(N,1)", "_(N,N)", "(N+1)", "(N+N)",
		"(N N)", "(1 N)", "\\n.(N n)", "{n=N;(n,n)}", "{n=N;(((n,n),(n,n)),((n,n),(n,n)))}", "{n=N;(((n,n),(n,n)),((n,n),(n,n)))}", "{a=N;\\b.(a,N)}", "?<1,N,N>", "\\n.?<n,(N n),0>", "(N,w)",
	}
	text := shapes[r.Intn(len(shapes))]
	for strings.Contains(text, "N") {
		text = strings.Replace(text, "N", randomName(r, files, number, letters), 1)
	}
	return text
}

func randomName(r *rand.Rand, files []impl.File, number, letters int) string {
	switch {
	case r.Intn(15) == 0:
		number = letters
	case number == 0:
		return "1"
	}
	name := string(rune('a' + r.Intn(number)))
	if r.Intn(10) == 0 {
		name = files[r.Intn(len(files))].Name + "." + name
	}
	return name
}

func TestRandomNames(t *testing.T) {
	r := rand.New(rand.NewSource(8))
	count := map[int]int{}
	for range 600 {
		files := randomDefs(r)
		if !impl.FilesValid(files) {
			t.Fatalf("%q is not valid", files)
		}
		compareNames(t, files, count)
	}
	if count[impl.NameOk] < 2000 || count[impl.NameWord] < 1000 || count[impl.NameType] < 1000 || count[impl.NameLarge] < 20 || count[impl.NameCycle] < 200 || count[impl.NameBlock] < 1000 {
		t.Errorf("the codes are %v", count)
	}
}

// TestTypesExactlyIf checks promise 6: a name without a signature has a type
// exactly if its definition is checked without a fault, and all that it uses
// have one.
func TestTypesExactlyIf(t *testing.T) {
	r := rand.New(rand.NewSource(9))
	count := map[[3]bool]int{}
	for range 1000 {
		files := randomDefs(r)
		for _, f := range files {
			faulty := map[int]bool{}
			for _, fault := range impl.FaultsOf(files, f.Name) {
				faulty[fault.Line] = true
			}
			for _, name := range impl.NamesOf(f.Text) {
				line, _ := impl.DefLine(f.Text, name)
				_, code := impl.TypeOf(files, f.Name, name)
				_, signed := impl.SigOf(f.Text, name)
				all := true
				for _, dep := range impl.DepsOf(files, f.Name, name) {
					_, depCode := impl.TypeOf(files, dep[:1], dep[2:])
					all = all && depCode == impl.NameOk
				}
				if (code == impl.NameOk) != (signed || !faulty[line] && all) {
					t.Fatalf("%q: %s.%s has the code %d, with the fault %v, and all that it uses have types: %v", files, f.Name, name, code, faulty[line], all)
				}
				count[[3]bool{signed, faulty[line], all}]++
			}
		}
	}
	for i := range 8 {
		if k := [3]bool{i&1 > 0, i&2 > 0, i&4 > 0}; count[k] < 50 {
			t.Errorf("only %d names are of the sort %v", count[k], k)
		}
	}
}

// bindings writes the definition of a name inside of bindings of all that it needs, each one behind what it needs itself.
func bindings(files []impl.File, name string) string {
	text, done := "", map[string]bool{}
	var bind func(full string)
	bind = func(full string) {
		if done[full] {
			return
		}
		done[full] = true
		for _, dep := range impl.DepsOf(files, "A", full[2:]) {
			bind(dep)
		}
		line, _ := impl.DefLine(files[0].Text, full[2:])
		e := impl.FormatExpr(impl.ParseFile(files[0].Text)[line].Expr)
		if full == "A."+name {
			text += e + strings.Repeat("}", strings.Count(text, "=")-strings.Count(text, "}"))
		} else {
			text += "{" + full[2:] + "=" + e + ";"
		}
	}
	bind("A." + name)
	return text
}

// TestNamesAreBindings compares the names of a file without signatures and
// circles with bindings in one expression, which chapter 4 types.
func TestNamesAreBindings(t *testing.T) {
	r := rand.New(rand.NewSource(10))
	typed, refused := 0, 0
	for range 4000 {
		files := randomDefs(r)[:1]
		files[0].Name = "A"
		lines := slices.DeleteFunc(strings.Split(files[0].Text, "\n"), func(l string) bool {
			return strings.Contains(l, " : ") || strings.Contains(l, ".") && !strings.Contains(l, "\\")
		})
		files[0].Text = textOf(lines...)
		for _, name := range impl.NamesOf(files[0].Text) {
			x, code := impl.TypeOf(files, "A", name)
			if impl.CyclicName(files, "A", name) || code == impl.NameLarge {
				continue
			}
			text := bindings(files, name)
			e, ok := impl.ParseExpr(text)
			if !ok {
				continue
			}
			y, inferCode := impl.InferExpr(nil, e)
			if inferCode == impl.InferLarge {
				continue
			}
			if (code == impl.NameOk) != (inferCode == impl.InferOk) || !impl.TypeSame(x, y) {
				t.Fatalf("%q: %s has the type %s, %d, and %s %s, %d", files, name, impl.FormatType(x), code, text, impl.FormatType(y), inferCode)
			}
			if code == impl.NameOk {
				typed++
			} else {
				refused++
			}
		}
	}
	if typed < 1000 || refused < 1000 {
		t.Errorf("%d names have types, and %d do not", typed, refused)
	}
}

// longWays has four files of 26 names, of which each one needs the next two: the last two need last.
func longWays(last string) []impl.File {
	var all []string
	for _, file := range "ABCD" {
		for c := 'a'; c <= 'z'; c++ {
			all = append(all, string(file)+"."+string(c))
		}
	}
	files := filesOf("A", "", "B", "", "C", "", "D", "")
	for i := range files {
		lines := []string{"use A", "use B", "use C", "use D"}
		for n := 26 * i; n < 26*(i+1); n++ {
			next, behind := last, last
			if n < len(all)-2 {
				next, behind = all[n+1], all[n+2]
			}
			line := all[n][2:] + " = (" + next + "+" + behind + ")"
			lines = append(lines, strings.ReplaceAll(line, files[i].Name+".", ""))
		}
		files[i].Text = textOf(lines...)
	}
	return files
}

// TestLongWays has names with very many ways to what all of them need.
func TestLongWays(t *testing.T) {
	for _, c := range []struct {
		last, lastAnswer, firstAnswer string
		typed, faults                 int
	}{
		{"1", "I", "I", 104, 0}, {"Q.a", "- word Q.a", "- block", 0, 2}, {"(1 1)", "- type", "- block", 0, 2}, {"A.a", "- cycle", "- cycle", 0, 104}, {"C.q", "- cycle", "- block", 0, 36},
	} {
		files := longWays(c.last)
		if last, first := nameAnswer(files, "D", "z"), nameAnswer(files, "A", "a"); last != c.lastAnswer || first != c.firstAnswer {
			t.Errorf("with %s, the last name is %s, and the first one %s", c.last, last, first)
		}
		typed, faults := 0, 0
		for _, f := range files {
			// Each file uses itself.
			faults += len(impl.FaultsOf(files, f.Name)) - 1
			typed += strings.Count(impl.FaceOf(files, f.Name), "\n")
		}
		if typed != c.typed || faults != c.faults {
			t.Errorf("with %s, %d names have types, and %d faults", c.last, typed, faults)
		}
	}
}

// TestManyUses has an expression with as many different names as there is room for.
func TestManyUses(t *testing.T) {
	text, letters, uses := "use B\n", "", []string{}
	for c := 'a'; c <= 'z'; c++ {
		letters += string(c) + " = 1\n"
		uses = append(uses, string(c))
	}
	for c := 'a'; c <= 'm'; c++ {
		uses = append(uses, "B."+string(c))
	}
	want := slices.Clone(uses)
	for i := range 26 {
		want[i] = "C." + want[i]
	}
	for len(uses) > 1 {
		uses = append(uses[3:], "?<"+uses[0]+","+uses[1]+","+uses[2]+">")
	}
	text += "z : I\nz = " + uses[0] + "\n" + letters
	files := filesOf("B", letters, "C", text)
	if got := nameAnswer(files, "C", "z"); got != "I" {
		t.Errorf("the name is %s", got)
	}
	got := impl.DepsOf(files, "C", "z")
	slices.Sort(got)
	slices.Sort(want)
	if !slices.Equal(got, want) {
		t.Errorf("DepsOf = %v", got)
	}
}

// TestNameResultsAreNew checks that a change of a result is not seen in another one.
func TestNameResultsAreNew(t *testing.T) {
	files := filesOf("A", "use B\nx = (y,(y,y))\ny : ((a>b)*(a>b))\ny = \\z.z\nv = w", "B", "x = 1\nx = 2\ny = 3")
	types := map[*impl.Type]int{}
	for range 2 {
		visible, deps, faults := impl.VisibleNames(files, "A"), impl.DepsOf(files, "A", "x"), impl.FaultsOf(files, "A")
		if !slices.Equal(visible, []string{"x", "y", "v", "B.x", "B.y"}) || !slices.Equal(deps, []string{"A.y"}) || len(faults) != 2 || faults[0].Name != "y" {
			t.Fatalf("the results are %v, %v and %v", visible, deps, faults)
		}
		for _, name := range []string{"x", "y"} {
			x, code := impl.TypeOf(files, "A", name)
			if code != impl.NameOk {
				t.Fatalf("%s has no type", name)
			}
			addMemory(types, x)
		}
		clear(visible)
		deps[0], faults[0] = "Q", impl.Fault{}
		_, _, _ = append(visible[:1], "Q"), append(deps[:0], "q"), append(faults[:1], impl.Fault{})
	}
	for at, n := range types {
		if n != 1 {
			t.Errorf("%v is reached %d times", *at, n)
		}
	}
}

// TestNameFilesAreKept checks that no function changes its arguments, or
// memory behind them, and that the order of the files does not matter.
func TestNameFilesAreKept(t *testing.T) {
	r := rand.New(rand.NewSource(11))
	for range 100 {
		longer := append(randomDefs(r), filesOf("E", "a = (1 1)")...)
		before := slices.Clone(longer)
		files := longer[:len(longer)-1]
		other := slices.Clone(files)
		r.Shuffle(len(other), func(i, j int) { other[i], other[j] = other[j], other[i] })
		for _, f := range append(filesOf("E", ""), files...) {
			if !slices.Equal(impl.VisibleNames(files, f.Name), impl.VisibleNames(other, f.Name)) || !slices.Equal(impl.FaultsOf(files, f.Name), impl.FaultsOf(other, f.Name)) || impl.FaceOf(files, f.Name) != impl.FaceOf(other, f.Name) {
				t.Errorf("%q: %s differs from that in %q", files, f.Name, other)
			}
			for _, name := range []string{"a", "b", "c"} {
				if a, b := nameAnswer(files, f.Name, name), nameAnswer(other, f.Name, name); a != b || f.Name == "E" && a != "- none" {
					t.Errorf("%q: %s.%s is %s, and %s in %q", files, f.Name, name, a, b, other)
				}
				if !slices.Equal(impl.DepsOf(files, f.Name, name), impl.DepsOf(other, f.Name, name)) || impl.CyclicName(files, f.Name, name) != impl.CyclicName(other, f.Name, name) {
					t.Errorf("%q: %s.%s differs from that in %q", files, f.Name, name, other)
				}
			}
		}
		if !slices.Equal(longer, before) {
			t.Errorf("the files became %v", longer)
		}
	}
}
