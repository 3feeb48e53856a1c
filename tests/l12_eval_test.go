package tests

import (
	"math"
	"math/rand"
	"regexp"
	"slices"
	"strconv"
	"strings"
	"testing"

	"loop.example/livetyper/impl"
)

// evaluated writes what EvalExpr or EvalName returns: the text of a value, or
// a word for the code.
func evaluated(text string, code int) string {
	if code == impl.EvalOk {
		if text == "" {
			return "no text"
		}
		return text
	}
	if text != "" {
		return "a code with a text"
	}
	return map[int]string{impl.EvalFuel: "fuel", impl.EvalWrong: "wrong", impl.EvalLost: "lost", impl.EvalInvalid: "invalid"}[code]
}

// evalCase has the text of an expression, its value or a word for a code, and
// the units of fuel that are used up until then; none for an expression without end.
type evalCase struct {
	text, want string
	units      int
}

// checkEval checks cases in a file, with fuel that is just enough, one unit less, and others.
func checkEval(t *testing.T, files []impl.File, file string, cases []evalCase) {
	t.Helper()
	for _, c := range cases {
		e := parsedExpr(t, c.text)
		for _, fuel := range []int{0, 1, 2, 3, c.units / 2, c.units - 1, c.units, c.units + 1, impl.MaxFuel - 1, impl.MaxFuel} {
			if fuel < 0 || fuel > impl.MaxFuel {
				continue
			}
			want := c.want
			if fuel < c.units {
				want = "fuel"
			}
			if got := evaluated(impl.EvalExpr(files, file, e, fuel)); got != want {
				t.Errorf("%q, %s: %s with %d units is %s, not %s", files, file, c.text, fuel, got, want)
			}
		}
	}
}

// checkEvalName checks EvalName of a full name, as checkEval does.
func checkEvalName(t *testing.T, files []impl.File, full, want string, units int) {
	t.Helper()
	for fuel, result := range map[int]string{0: "fuel", units - 1: "fuel", units: want, units + 1: want, impl.MaxFuel: want} {
		if got := evaluated(impl.EvalName(files, full[:1], full[2:], fuel)); got != result {
			t.Errorf("%q: %s with %d units is %s, not %s", files, full, fuel, got, result)
		}
	}
}

func TestEvalConstants(t *testing.T) {
	list := []int{impl.EvalOk, impl.EvalFuel, impl.EvalWrong, impl.EvalLost, impl.EvalInvalid, impl.MaxFuel}
	if !slices.Equal(list, []int{0, 1, 2, 3, 4, 400}) {
		t.Errorf("the constants are %v", list)
	}
}

// TestEvalKinds has cases for each kind of expression, in a file without lines.
func TestEvalKinds(t *testing.T) {
	checkEval(t, filesOf("A", ""), "A", []evalCase{
		// Numbers and functions.
		{"0", "0", 1}, {"7", "7", 1}, {"10", "10", 1}, {"99", "99", 1}, {`\x.x`, "fun", 1}, {`\x.q`, "fun", 1}, {`\x.(1 1)`, "fun", 1}, {`\x.\y.x`, "fun", 1},
		// Names.
		{"q", "lost", 1}, {"B.q", "lost", 1}, {"A.q", "lost", 1}, {`(\x.x 5)`, "5", 4}, {"{x=5;x}", "5", 3},
		// Calls.
		{`(\x.3 1)`, "3", 4}, {`(\x.(x,x) 1)`, "(1,1)", 6}, {`((\x.\y.x 1) 2)`, "1", 7}, {`((\x.\y.y 1) 2)`, "2", 7}, {`(\x.\y.x 1)`, "fun", 4}, {`(\f.(f 1) \x.(x+1))`, "2", 9}, {`(\x.x \x.x)`, "fun", 4}, {`(\x.(x x) \y.y)`, "fun", 7},
		{"(1 2)", "wrong", 3}, {"((1,2) 3)", "wrong", 5}, {`((\x.x,2) 3)`, "wrong", 5}, {`(\x.(x 1) 2)`, "wrong", 6}, {`(\x.q 1)`, "lost", 4}, {`(\x.(1 1) 1)`, "wrong", 6}, {`((\x.1 2) 3)`, "wrong", 6}, {`(?<0,1,2> 3)`, "wrong", 5},
		// Sums.
		{"(1+2)", "3", 3}, {"(98+1)", "99", 3}, {"(99+1)", "0", 3}, {"(1+99)", "0", 3}, {"(50+50)", "0", 3}, {"(99+99)", "98", 3}, {"(99+2)", "1", 3}, {"(0+0)", "0", 3}, {"((99+99)+(99+99))", "96", 7}, {"(((99+1)+99)+1)", "0", 7}, {`(\x.(x+x) 60)`, "20", 6},
		{`(1+\x.x)`, "wrong", 3}, {`(\x.x+1)`, "wrong", 3}, {"((1,2)+1)", "wrong", 5}, {"(1+(1,2))", "wrong", 5}, {`(\x.x+\x.x)`, "wrong", 3}, {"(q+1)", "lost", 2}, {"(1+q)", "lost", 3},
		// Bindings.
		{"{x=1;2}", "2", 3}, {"{x=1;(x+x)}", "2", 5}, {`{f=\x.(x+1);((f 1),(f 2))}`, "(2,3)", 15}, {"{x=(1,2);x}", "(1,2)", 5}, {"{x=q;1}", "lost", 2}, {"{x=(1 1);1}", "wrong", 4}, {"{x=1;q}", "lost", 3}, {"{x=x;1}", "lost", 2}, {"{x=1;(x x)}", "wrong", 5}, {`{x=\y.y;(x x)}`, "fun", 6},
		// Choices.
		{"?<0,1,2>", "2", 3}, {"?<1,1,2>", "1", 3}, {"?<2,1,2>", "1", 3}, {"?<99,1,2>", "1", 3}, {"?<(99+1),1,2>", "2", 5}, {"?<(1+98),1,2>", "1", 5}, {`?<1,\x.x,2>`, "fun", 3}, {"?<0,1,(2,3)>", "(2,3)", 5}, {"{x=0;?<x,1,2>}", "2", 5}, {"?<?<0,1,0>,1,2>", "2", 5},
		{`?<\x.x,1,2>`, "wrong", 2}, {"?<(0,0),1,2>", "wrong", 4}, {"?<(1,0),1,2>", "wrong", 4}, {"?<q,1,2>", "lost", 2},
		// Pairs and their parts.
		{"(1,2)", "(1,2)", 3}, {"((1,2),3)", "((1,2),3)", 5}, {"(1,(2,3))", "(1,(2,3))", 5}, {"((10,(2,99)),(0,4))", "((10,(2,99)),(0,4))", 9}, {`(\x.x,\y.1)`, "(fun,fun)", 3}, {`((1,\x.x),\y.y)`, "((1,fun),fun)", 5}, {`\x.(x,x)`, "fun", 1}, {"(1,q)", "lost", 3}, {"(q,1)", "lost", 2},
		{"^(1,2)", "1", 4}, {"_(1,2)", "2", 4}, {"^((1,2),3)", "(1,2)", 6}, {"_(1,(2,3))", "(2,3)", 6}, {"_^((1,2),3)", "2", 7}, {"^_(1,(2,3))", "2", 7}, {`(^(\x.(x+1),2) 3)`, "4", 9}, {"{p=(1,2);(_p,^p)}", "(2,1)", 9},
		{"^1", "wrong", 2}, {"_1", "wrong", 2}, {`^\x.x`, "wrong", 2}, {`_\x.(x,x)`, "wrong", 2}, {"^^(1,2)", "wrong", 5}, {"__(1,2)", "wrong", 5}, {"^q", "lost", 2}, {"_q", "lost", 2}, {"^(1,q)", "lost", 4}, {"_(q,1)", "lost", 3},
	})
}

// TestEvalOrder has expressions in which more than one operand does not have a value as is needed.
func TestEvalOrder(t *testing.T) {
	checkEval(t, filesOf("A", "l = l"), "A", []evalCase{
		// The first operand ends the evaluation before the second one.
		{"((1 1)+q)", "wrong", 4}, {"(q+(1 1))", "lost", 2}, {"((1 1) q)", "wrong", 4}, {"(q (1 1))", "lost", 2}, {"((1 1),q)", "wrong", 4}, {"(q,(1 1))", "lost", 2}, {"{x=(1 1);q}", "wrong", 4}, {"{x=q;(1 1)}", "lost", 2}, {"^((1 1),q)", "wrong", 5}, {"((1 1)+l)", "wrong", 4}, {"(q l)", "lost", 2},
		// Both are evaluated before their values are looked at.
		{"(1 q)", "lost", 3}, {"((1,2) q)", "lost", 5}, {`(\x.x+q)`, "lost", 3}, {"((1,2)+q)", "lost", 5}, {`(\x.x+(1 1))`, "wrong", 5}, {"(1 (q 1))", "lost", 4}, {"(1 (1 1))", "wrong", 5}, {`(\x.(1 1) q)`, "lost", 3}, {`(\x.q (1 1))`, "wrong", 5},
		{"(1 l)", "fuel", 0}, {`(\x.x+l)`, "fuel", 0}, {"((1,2)+l)", "fuel", 0}, {"(l q)", "fuel", 0}, {"(l,q)", "fuel", 0}, {"{x=l;q}", "fuel", 0}, {`(\x.1 l)`, "fuel", 0}, {"^(1,l)", "fuel", 0},
		// A choice evaluates one of its parts, and none if its number is none.
		{"?<0,q,2>", "2", 3}, {"?<0,(1 1),2>", "2", 3}, {"?<0,l,2>", "2", 3}, {"?<1,2,q>", "2", 3}, {"?<1,2,(1 1)>", "2", 3}, {"?<99,2,l>", "2", 3}, {"?<99,2,q>", "2", 3}, {"?<99,2,(1 1)>", "2", 3}, {"?<1,2,l>", "2", 3}, {"?<(99+1),l,2>", "2", 5},
		{"?<0,1,q>", "lost", 3}, {"?<99,q,1>", "lost", 3}, {"?<0,1,(1 1)>", "wrong", 5}, {"?<1,(1 1),1>", "wrong", 5}, {"?<1,l,1>", "fuel", 0}, {"?<0,1,l>", "fuel", 0}, {`?<\x.x,q,q>`, "wrong", 2}, {"?<(0,1),l,l>", "wrong", 4}, {"?<(1 1),q,q>", "wrong", 4}, {"?<q,(1 1),(1 1)>", "lost", 2}, {"?<l,1,q>", "fuel", 0},
	})
}

// TestEvalBindings has names that are bound twice, and names that hide definitions.
func TestEvalBindings(t *testing.T) {
	files := filesOf("A", "use B\nx = 70\ny = (x+1)\nf = \\y.(x,y)", "B", "x = 80")
	checkEval(t, files, "A", []evalCase{
		// By functions and by bindings.
		{`((\x.\x.x 1) 2)`, "2", 7}, {`((\x.\y.(x,y) 1) 2)`, "(1,2)", 9}, {"{x=1;{x=2;x}}", "2", 5}, {"{x=1;({x=2;x},x)}", "(2,1)", 7}, {`({x=2;x},{x=3;x})`, "(2,3)", 7}, {`(\x.{x=2;x} 1)`, "2", 6}, {`{x=1;(\x.x 2)}`, "2", 6}, {`{x=1;(\x.{x=(x+x);x} x)}`, "2", 10},
		{"{x=1;{x=(x+1);x}}", "2", 7}, {"{x=1;{y=x;{x=2;(x,y)}}}", "(2,1)", 9}, {`{x=1;{f=\y.(x,y);{x=2;(f x)}}}`, "(1,2)", 12}, {`(\x.(\y.(\x.(x,y) 3) x) 1)`, "(3,1)", 12}, {`{f=\x.\x.x;((f 1) 2)}`, "2", 9},
		// A definition is hidden as far as the binding reaches.
		{"x", "70", 2}, {"{x=1;x}", "1", 3}, {"({x=1;x},x)", "(1,70)", 6}, {"{x=x;x}", "70", 4}, {"{x=(x+1);(x+x)}", "42", 8}, {`(\x.x 1)`, "1", 4}, {`(\x.x x)`, "70", 5}, {`(\x.(x+1) x)`, "71", 7}, {"{y=x;(x,y)}", "(70,70)", 7}, {`((\x.x 1),x)`, "(1,70)", 7},
		// What is bound around a name is not bound in its definition.
		{"{x=1;y}", "71", 7}, {`(\x.y 1)`, "71", 8}, {"{x=1;(f x)}", "(70,1)", 10}, {`(\x.(f 2) 1)`, "(70,2)", 11}, {"{y=1;(f 2)}", "(70,2)", 10}, {`{f=\x.x;(f 3)}`, "3", 6},
		// A name with a file is not bound.
		{"{x=1;B.x}", "80", 4}, {`(\x.B.x 1)`, "80", 5}, {`(\x.(x,B.x) 1)`, "(1,80)", 7}, {"{x=B.x;(x,B.x)}", "(80,80)", 7}, {"{x=1;B.y}", "lost", 3}, {`(\y.B.y 1)`, "lost", 4}, {"{x=1;A.x}", "lost", 3}, {"{x=1;C.x}", "lost", 3},
	})
}

// TestEvalFiles has functions that are called in other files, and names that files cannot use.
func TestEvalFiles(t *testing.T) {
	files := filesOf(
		"B", "use A\nuse B\nuse Q\nn = 3\no = 9\nz = B.n",
		"A", "use C\nn = 1\nk = \\x.(x+n)\nm = \\x.\\y.((x,y),n)\nh = \\f.(f n)\nc = \\x.C.s\ne = \\x.o\nd = \\x.B.n\nw = ^(n,h)\nr = \\x.\\n.(x+n)\nv = (\\x.n,n)",
		"C", "s = (n,4)\nn = 2",
	)
	checkEval(t, files, "B", []evalCase{
		// The body has the definitions of its own file, and those of the files that this one uses.
		{"A.n", "1", 2}, {"(n,A.n)", "(3,1)", 5}, {"(A.k n)", "4", 9}, {"(A.k 10)", "11", 8}, {"((A.m n) o)", "((3,9),1)", 15}, {"(A.m n)", "fun", 6}, {"(A.c 0)", "(2,4)", 9}, {"(^A.v 0)", "1", 10}, {"A.w", "1", 7}, {"A.v", "(fun,1)", 5},
		// What it keeps is bound there, and what is bound around the call is not.
		{"{n=50;(A.k 1)}", "2", 10}, {"{n=50;(A.k n)}", "51", 10}, {`(\n.(A.k n) 9)`, "10", 11}, {"{x=50;((A.m 1) 2)}", "((1,2),1)", 15}, {"{f=(A.m 5);{x=6;((f 1),(f x))}}", "(((5,1),1),((5,6),1))", 27}, {"((A.r 5) 6)", "11", 10},
		// A function that is given to one of another file keeps its file, too.
		{`(A.h \x.(x+n))`, "4", 12}, {`(A.h \x.(x,o))`, "(1,9)", 12}, {`{n=50;(A.h \x.(x+n))}`, "51", 13}, {`(\o.(A.h \x.(x,o)) 8)`, "(1,8)", 14}, {"(A.h A.k)", "2", 13}, {"(A.h (A.m n))", "((3,1),1)", 19}, {`(A.h \n.\x.n)`, "fun", 9},
		// The file of the body cannot use what that of the call can, and the other way round.
		{"o", "9", 2}, {"(A.e 0)", "lost", 5}, {"(A.d 0)", "lost", 5}, {"{o=1;(A.e 0)}", "lost", 7}, {`(A.h \x.k)`, "lost", 9}, {`(A.h \x.C.s)`, "lost", 9}, {`(A.h \x.A.k)`, "fun", 10},
		// Names that expressions of the file cannot use.
		{"q", "lost", 1}, {"k", "lost", 1}, {"A.q", "lost", 1}, {"A.o", "lost", 1}, {"C.s", "lost", 1}, {"C.n", "lost", 1}, {"Q.n", "lost", 1}, {"D.n", "lost", 1}, {"B.n", "lost", 1}, {"B.q", "lost", 1}, {"z", "lost", 2}, {"(z z)", "lost", 3},
	})
	checkEval(t, files, "A", []evalCase{{"n", "1", 2}, {"C.n", "2", 2}, {"C.s", "(2,4)", 5}, {"o", "lost", 1}, {"s", "lost", 1}, {"A.n", "lost", 1}, {"B.n", "lost", 1}, {"(e 1)", "lost", 5}, {"(k C.n)", "3", 9}})
	checkEval(t, files, "C", []evalCase{{"n", "2", 2}, {"s", "(2,4)", 5}, {"(\\n.s 7)", "(2,4)", 8}, {"A.n", "lost", 1}, {"C.n", "lost", 1}, {"C.s", "lost", 1}})
	for full, want := range map[string]string{"B.n": "3", "B.z": "lost", "A.k": "fun", "A.w": "1", "C.s": "(2,4)", "C.n": "2", "A.v": "(fun,1)"} {
		if got := evaluated(impl.EvalName(files, full[:1], full[2:], impl.MaxFuel)); got != want {
			t.Errorf("%s is %s, not %s", full, got, want)
		}
	}
	// Two files that use each other.
	files = filesOf("A", "use B\ng = \\n.?<n,(B.g (n+99)),(1,n)>", "B", "use A\ng = \\n.?<n,(A.g (n+99)),(2,n)>")
	checkEval(t, files, "A", []evalCase{{"(g 0)", "(1,0)", 9}, {"(g 1)", "(2,0)", 17}, {"(B.g 0)", "(2,0)", 9}, {"(g 2)", "(1,0)", 25}, {"(B.g 7)", "(1,0)", 65}, {"(A.g 0)", "lost", 2}})
}

// TestEvalSelf has definitions that use themselves.
func TestEvalSelf(t *testing.T) {
	files := filesOf("A", "g : (I>I)\ng = \\n.?<n,(g (n+99)),5>\nl = l\nx = y\ny = (1,x)\nc = ?<0,c,1>\nd = {d=3;d}\ne = \\n.(e n)\nm = \\n.?<n,((m (n+99))+1),0>\ns = \\f.\\n.?<n,((f f) (n+99)),8>")
	checkEval(t, files, "A", []evalCase{
		// By a choice that ends.
		{"(g 0)", "5", 7}, {"(g 1)", "5", 15}, {"(g 2)", "5", 23}, {"(g 49)", "5", 399}, {"(m 0)", "0", 7}, {"(m 3)", "3", 37}, {"c", "1", 4}, {"d", "3", 4}, {"((s s) 0)", "8", 11}, {"((s s) 2)", "8", 31}, {"g", "fun", 2}, {"e", "fun", 2},
		// Without an end, or with one that is too far away.
		{"(g 50)", "fuel", 0}, {"(g 99)", "fuel", 0}, {"l", "fuel", 0}, {"x", "fuel", 0}, {"y", "fuel", 0}, {"(1+l)", "fuel", 0}, {"(e 1)", "fuel", 0}, {"(m 99)", "fuel", 0}, {`(\x.(x x) \x.(x x))`, "fuel", 0}, {"((s s) 99)", "fuel", 0}, {"?<l,1,2>", "fuel", 0},
	})
	checkEvalName(t, files, "A.c", "1", 3)
	checkEvalName(t, files, "A.d", "3", 3)
	checkEvalName(t, files, "A.g", "fun", 1)
	for _, name := range []string{"l", "x", "y"} {
		for fuel := range impl.MaxFuel + 1 {
			if got := evaluated(impl.EvalName(files, "A", name, fuel)); got != "fuel" {
				t.Errorf("%s with %d units is %s", name, fuel, got)
			}
		}
	}
}

// TestEvalFaults has definitions whose types are not found, or lines that have faults.
func TestEvalFaults(t *testing.T) {
	files := filesOf(
		"A", "t = (1 1)\nc = ?<0,(1 1),2>\nv = ?<0,w,3>\nb = (c,1)\nw : I\nx = 4\nx = 5\ns : (I*I)\ns = 6\n(\nz = (1\nu : (I>I)\nuse Q\nuse A\nk = (k k)\nf = \\x.(x x)\nr = (f \\y.7)\n-- m = 1\n m = 1\no = (\\x.(x x) f)",
		"B", doubled+"use A\np = (A.x,A.s)\nq = ^e\n",
	)
	checkEval(t, files, "A", []evalCase{
		{"t", "wrong", 4}, {"c", "2", 4}, {"v", "3", 4}, {"b", "(2,1)", 7}, {"w", "lost", 1}, {"x", "4", 2}, {"s", "6", 2}, {"z", "lost", 1}, {"u", "lost", 1}, {"m", "lost", 1}, {"k", "fuel", 0}, {"f", "fun", 2}, {"r", "7", 9}, {"(t,q)", "wrong", 5}, {"(f f)", "fuel", 0}, {"o", "fuel", 0}, {"(s+x)", "10", 5},
	})
	checkEval(t, files, "B", []evalCase{{"p", "(4,6)", 6}, {"A.t", "wrong", 4}, {"A.w", "lost", 1}, {"A.v", "3", 4}, {"(A.x+A.s)", "10", 5}})
	for full, want := range map[string]string{"A.t": "wrong", "A.c": "2", "A.v": "3", "A.x": "4", "A.w": "invalid", "A.z": "invalid", "A.u": "invalid", "A.m": "invalid", "A.s": "6", "A.r": "7", "B.p": "(4,6)", "A.q": "invalid"} {
		if got := evaluated(impl.EvalName(files, full[:1], full[2:], 30)); got != want {
			t.Errorf("%s is %s, not %s", full, got, want)
		}
	}
	for full, code := range map[string]int{"A.t": impl.NameType, "A.c": impl.NameType, "A.v": impl.NameWord, "A.b": impl.NameBlock, "A.s": impl.NameType, "A.k": impl.NameCycle, "A.f": impl.NameType, "A.r": impl.NameBlock} {
		if got, _ := impl.CodeOf(files, full[:1], full[2:]); got != code {
			t.Errorf("%s has the code %d", full, got)
		}
	}
}

// longValue is an expression whose value has a text of 897 bytes without three
// of its parts, in a file that defines d, which doubles.
func longValue(a, b, c string) string {
	return "{g=(d (d (d (d (d (d (d 1)))))));{p=^^^g;((g,^g),((p,^p),((^^p,^^^p),(" + a + ",(" + b + "," + c + ")))))}}"
}

// TestEvalLongTexts has values whose texts are about as long as they may be, or much longer.
func TestEvalLongTexts(t *testing.T) {
	d := "d = \\x.(x,x)\n"
	files := filesOf("A", d+"q = \\x.(d (d (d (d x))))\nr = \\x.(q (q x))\nh = (r (r (r (r 1))))\nn = (r 1)\nv = "+longValue("12", "12", "12")+"\nw = "+longValue("12", "12", "d"))
	for parts, length := range map[string]int{"1 1 1": 897, "12 1 1": 898, "d 1 1": 899, "1 12 12": 899, "12 12 12": 900, "d 12 1": 900, "1 d 12": 900, "12 12 d": 901, "d d 1": 901, "1 1 (1,1)": 901, "12 (1,1) 1": 902, "d d d": 903} {
		p := strings.Split(parts, " ")
		e := parsedExpr(t, longValue(p[0], p[1], p[2]))
		text, code := impl.EvalExpr(files, "A", e, impl.MaxFuel)
		if length > 900 && (code != impl.EvalFuel || text != "") || length <= 900 && (code != impl.EvalOk || len(text) != length) {
			t.Errorf("with %s, the text has %d bytes instead of %d, and the code is %d", parts, len(text), length, code)
		}
	}
	if text, code := impl.EvalName(files, "A", "v", impl.MaxFuel); len(text) != 900 || code != impl.EvalOk || !strings.HasSuffix(text, ",((((1,1),(1,1)),(1,1)),(12,(12,12)))))") {
		t.Errorf("v is %s, %d", text, code)
	}
	if text, code := impl.EvalName(files, "A", "w", impl.MaxFuel); text != "" || code != impl.EvalFuel {
		t.Errorf("w is %s, %d", text, code)
	}
	// A value that is too long can be a part of the way to one that is not.
	checkEval(t, files, "A", []evalCase{{"h", "fuel", 0}, {"n", "fuel", 0}, {"(h,1)", "fuel", 0}, {`(\x.2 h)`, "2", 245}, {"{x=h;3}", "3", 244}, {"^(4,h)", "4", 245}, {"(h+1)", "wrong", 244}, {"(h h)", "fuel", 0}, {"(n n)", "wrong", 125}, {"?<n,1,2>", "wrong", 63}, {`{x=h;\y.x}`, "fun", 244}, {"^^^^^^^^n", "1", 70}, {"^^^^^^n", "((1,1),(1,1))", 68}})
}

// TestEvalLimits has expressions and files at the limits.
func TestEvalLimits(t *testing.T) {
	files := filesOf("A", "use B\nuse D\nx = (B.y,2)\n", "B", spareLines(impl.MaxFileLine-1)+"\ny = (x+x)", "C", strings.Repeat("-", impl.MaxText), "D", "use A\nx = A.x")
	program := plainProgramOf(files)
	for _, file := range []string{"A", "C", "D"} {
		for _, e := range goodExprs() {
			got, want := evaluated(impl.EvalExpr(files, file, e, impl.MaxFuel)), plainEval(program, file, e, impl.MaxFuel)
			if got != want {
				t.Errorf("%s in %s is %s, not %s", rawExpr(e), file, got, want)
			}
		}
	}
	checkEval(t, files, "D", []evalCase{
		{rawExpr(bindingsOf("abcdefghij")), "(10,1)", 23}, {rawExpr(deepExpr(impl.MaxDepth)), "lost", impl.MaxDepth}, {"(x,A.x)", "((2,2),(2,2))", 20}, {"A.y", "lost", 1}, {"B.y", "lost", 1},
		{"{y=((((1,2),3),4),5);^^^^y}", "1", 15}, {"{y=(1,(2,(3,(4,5))));____y}", "5", 15},
	})
}

// bindingsOf binds each of these letters to its number, and has the last and the first one.
func bindingsOf(letters string) impl.Expr {
	at := func(i int) impl.Expr { return nameExpr(letters[i : i+1]) }
	e := exprOf(impl.ExprPair, "", at(len(letters)-1), at(0))
	for i := len(letters) - 1; i >= 0; i-- {
		e = exprOf(impl.ExprLet, letters[i:i+1], numExpr(i+1), e)
	}
	return e
}

// plainDef is the expression that defines a name, with its file.
type plainDef struct {
	file string
	expr impl.Expr
}

// plainProgram has, for each file, the names that its expressions can use.
type plainProgram map[string]map[string]plainDef

func plainProgramOf(files []impl.File) plainProgram {
	program := plainProgram{}
	for _, f := range files {
		program[f.Name] = map[string]plainDef{}
		for _, name := range impl.VisibleNames(files, f.Name) {
			file := f.Name
			if len(name) == 3 {
				file = name[:1]
			}
			text, _ := impl.FindFile(files, file)
			line, _ := impl.DefLine(text, name[len(name)-1:])
			program[f.Name][name] = plainDef{file, impl.ParseFile(text)[line].Expr}
		}
	}
	return program
}

// plainValue is a number, a pair or a function, by the kind of the expression
// that yields it; length is that of its text.
type plainValue struct {
	kind   int
	n      int
	parts  [2]*plainValue
	body   impl.Expr
	file   string
	names  []plainName
	length int
}

// plainName is a name that is bound.
type plainName struct {
	name  string
	value *plainValue
}

// plainRun follows the chapter word by word. It panics with the word for the
// code at which the evaluation ends.
type plainRun struct {
	program plainProgram
	fuel    int
}

// plainEval returns what evaluated does, for valid arguments.
func plainEval(program plainProgram, file string, e impl.Expr, fuel int) (result string) {
	result, _ = plainEvalUnits(program, file, e, fuel)
	return result
}

// plainEvalUnits also returns the units of fuel that are used up.
func plainEvalUnits(program plainProgram, file string, e impl.Expr, fuel int) (result string, units int) {
	run := &plainRun{program, fuel}
	defer func() {
		if end := recover(); end != nil {
			result, units = end.(string), fuel-run.fuel
		}
	}()
	v := run.value(file, nil, e)
	if v.length > 900 {
		return "fuel", fuel - run.fuel
	}
	return v.text(), fuel - run.fuel
}

func (v *plainValue) text() string {
	switch v.kind {
	case impl.ExprNum:
		return strconv.Itoa(v.n)
	case impl.ExprFun:
		return "fun"
	}
	return "(" + v.parts[0].text() + "," + v.parts[1].text() + ")"
}

// need ends the evaluation if a value is of another kind.
func (v *plainValue) need(kind int) *plainValue {
	if v.kind != kind {
		panic("wrong")
	}
	return v
}

func plainNumber(n int) *plainValue {
	return &plainValue{kind: impl.ExprNum, n: n, length: len(strconv.Itoa(n))}
}

func (run *plainRun) value(file string, names []plainName, e impl.Expr) *plainValue {
	if run.fuel == 0 {
		panic("fuel")
	}
	run.fuel--
	operand := func(i int) *plainValue { return run.value(file, names, e.Kids[i]) }
	switch e.Kind {
	case impl.ExprNum:
		return plainNumber(e.N)
	case impl.ExprName:
		return run.name(file, names, e)
	case impl.ExprFun:
		return &plainValue{kind: impl.ExprFun, body: e, file: file, names: names, length: 3}
	case impl.ExprApp:
		f, arg := operand(0), operand(1)
		f.need(impl.ExprFun)
		return run.value(f.file, plainBind(f.names, f.body.Name, arg), f.body.Kids[0])
	case impl.ExprAdd:
		a, b := operand(0), operand(1)
		return plainNumber((a.need(impl.ExprNum).n + b.need(impl.ExprNum).n) % 100)
	case impl.ExprLet:
		return run.value(file, plainBind(names, e.Name, operand(0)), e.Kids[1])
	case impl.ExprIf:
		if operand(0).need(impl.ExprNum).n != 0 {
			return operand(1)
		}
		return operand(2)
	case impl.ExprPair:
		a, b := operand(0), operand(1)
		return &plainValue{kind: impl.ExprPair, parts: [2]*plainValue{a, b}, length: min(1000, 3+a.length+b.length)}
	}
	return operand(0).need(impl.ExprPair).parts[e.Kind-impl.ExprFst]
}

func plainBind(names []plainName, name string, v *plainValue) []plainName {
	return append(slices.Clone(names), plainName{name, v})
}

func (run *plainRun) name(file string, names []plainName, e impl.Expr) *plainValue {
	for _, bound := range slices.Backward(names) {
		if e.Mod == "" && bound.name == e.Name {
			return bound.value
		}
	}
	def, ok := run.program[file][rawExpr(e)]
	if !ok {
		panic("lost")
	}
	return run.value(def.file, nil, def.expr)
}

// sortOf is the sort of a result: a word for a code, "fun" for a value with a
// function, and "value" for another one.
func sortOf(result string) string {
	switch {
	case result == "fuel" || result == "wrong" || result == "lost":
		return result
	case strings.Contains(result, "fun"):
		return "fun"
	}
	return "value"
}

// compareEval compares an expression with the plain rules, with all fuel, just
// enough of it, and less; and counts the results by their sorts.
func compareEval(t *testing.T, files []impl.File, program plainProgram, file string, e impl.Expr, count map[string]int) {
	t.Helper()
	all, units := plainEvalUnits(program, file, e, impl.MaxFuel)
	count[sortOf(all)]++
	for _, fuel := range []int{impl.MaxFuel, units, units - 1, units / 2} {
		want := plainEval(program, file, e, fuel)
		if want != all && (want != "fuel" || fuel >= units) {
			t.Fatalf("%q, %s: %s with %d units is %s by the plain rules", files, file, rawExpr(e), fuel, want)
		}
		if got := evaluated(impl.EvalExpr(files, file, e, fuel)); got != want {
			t.Fatalf("%q, %s: %s with %d units is %s, not %s", files, file, rawExpr(e), fuel, got, want)
		}
	}
}

// TestEvalAllExprs compares all small expressions in two files.
func TestEvalAllExprs(t *testing.T) {
	files := filesOf("A", "x = (\\x.(x,0),B.x)\nuse B", "B", "use A\nx = (99+2)\ny = A.x")
	program := plainProgramOf(files)
	count := map[string]int{}
	for _, e := range exprsUpTo(5, []impl.Expr{numExpr(0), numExpr(99), nameExpr("x"), nameExpr("A.x")}) {
		for _, file := range []string{"A", "B"} {
			compareEval(t, files, program, file, e, count)
		}
	}
	if count["value"] < 1000 || count["fun"] < 1000 || count["wrong"] < 1000 || count["lost"] < 1000 {
		t.Errorf("the results are %v", count)
	}
}

// TestEvalRandomExprs compares random expressions in random files, whose
// definitions are not checked.
func TestEvalRandomExprs(t *testing.T) {
	r := rand.New(rand.NewSource(121))
	count := map[string]int{}
	for range 160 {
		files := [](func(*rand.Rand) []impl.File){randomDefs, randomScopes, randomGraph, randomTyped, randomTyped}[r.Intn(5)](r)
		program := plainProgramOf(files)
		for _, f := range files {
			known := []impl.Known{{Name: "z"}}
			for _, name := range impl.VisibleNames(files, f.Name) {
				known = append(known, impl.Known{Name: name})
			}
			for range 25 {
				e := randomUse(r, 1+r.Intn(6), known, nil)
				if impl.ExprValid(e) {
					compareEval(t, files, program, f.Name, e, count)
				}
			}
		}
		for _, full := range impl.AllNames(files) {
			def := program[full[:1]][full[2:]]
			fuel := r.Intn(impl.MaxFuel + 1)
			want := plainEval(program, def.file, def.expr, fuel)
			if got := evaluated(impl.EvalName(files, full[:1], full[2:], fuel)); got != want {
				t.Fatalf("%q: %s with %d units is %s, not %s", files, full, fuel, got, want)
			}
			count["name "+sortOf(want)]++
		}
	}
	if count["value"] < 600 || count["fun"] < 800 || count["fuel"] < 500 || count["wrong"] < 800 || count["lost"] < 1000 || count["name value"] < 200 || count["name fun"] < 150 || count["name fuel"] < 100 || count["name wrong"] < 40 || count["name lost"] < 90 {
		t.Errorf("the results are %v", count)
	}
}

// typedNames has names with their types, of which the last one with a text counts.
type typedNames []impl.Known

func (names typedNames) with(text string, x impl.Type) typedNames {
	return append(slices.Clone(names), impl.Known{Name: text, Type: x})
}

// of returns the names of a type.
func (names typedNames) of(x impl.Type) []string {
	last := map[string]impl.Type{}
	for _, known := range names {
		last[known.Name] = known.Type
	}
	var list []string
	for text, y := range last {
		if impl.TypeSame(x, y) {
			list = append(list, text)
		}
	}
	slices.Sort(list)
	return list
}

// simpleType is a type without variables, of a few nodes.
func simpleType(r *rand.Rand, depth int) impl.Type {
	switch n := r.Intn(6); {
	case n < 3 || depth == 1:
		return number
	case n < 5:
		return fun(simpleType(r, depth-1), simpleType(r, depth-1))
	}
	return pair(simpleType(r, depth-1), simpleType(r, depth-1))
}

// typedExpr is the text of an expression that has a type.
func typedExpr(r *rand.Rand, want impl.Type, depth int, names typedNames) string {
	sub := func(x impl.Type) string { return typedExpr(r, x, depth-1, names) }
	if list := names.of(want); len(list) > 0 && (depth <= 1 || r.Intn(3) == 0) {
		return list[r.Intn(len(list))]
	}
	if depth <= 1 {
		return typedValue(r, want, depth, names)
	}
	other, letter := simpleType(r, 2), string("abnxyz"[r.Intn(6)])
	switch r.Intn(12) {
	case 0, 1, 2:
		return "(" + sub(fun(other, want)) + " " + sub(other) + ")"
	case 3, 4:
		return "{" + letter + "=" + sub(other) + ";" + typedExpr(r, want, depth-1, names.with(letter, other)) + "}"
	case 5:
		return "?<" + sub(number) + "," + sub(want) + "," + sub(want) + ">"
	case 6:
		return "^" + sub(pair(want, other))
	case 7:
		return "_" + sub(pair(other, want))
	}
	return typedValue(r, want, depth, names)
}

// typedValue is a number, a sum, a function or a pair.
func typedValue(r *rand.Rand, want impl.Type, depth int, names typedNames) string {
	switch want.Kind {
	case impl.TypeNum:
		if depth > 1 && r.Intn(2) == 0 {
			return "(" + typedExpr(r, number, depth-1, names) + "+" + typedExpr(r, number, depth-1, names) + ")"
		}
		return strconv.Itoa(r.Intn(100) * r.Intn(2))
	case impl.TypeFun:
		letter := string("abnxyz"[r.Intn(6)])
		return "\\" + letter + "." + typedExpr(r, want.Kids[1], depth-1, names.with(letter, want.Kids[0]))
	}
	return "(" + typedExpr(r, want.Kids[0], depth-1, names) + "," + typedExpr(r, want.Kids[1], depth-1, names) + ")"
}

// typedLines returns lines that define a name with a type; they can be signed
// then, or wrong.
func typedLines(r *rand.Rand, name string, x impl.Type, signed bool, names typedNames) []string {
	text := ""
	for {
		text = typedExpr(r, x, 2+r.Intn(4), names)
		if signed && r.Intn(3) == 0 && rawText(x) == "(I>I)" {
			text = "\\n.?<n,(" + name + " (n+99)),(" + text + " n)>"
		}
		if r.Intn(25) == 0 {
			text = strings.Replace(text, []string{"x", "1", "n"}[r.Intn(3)], []string{"q", "(1 1)", "C.q", "^2"}[r.Intn(4)], 1)
		}
		if _, ok := impl.ParseExpr(text); ok {
			break
		}
	}
	lines := []string{name + " = " + text}
	if signed {
		lines = append(lines, name+" : "+rawText(x))
	}
	return lines
}

// randomTyped is a list of files whose definitions have types, mostly, and use
// those before them, or those with signatures.
func randomTyped(r *rand.Rand) []impl.File {
	files := filesOf("B", "", "A", "", "C", "")[:1+r.Intn(3)]
	lines := make([][]string, len(files))
	var all []impl.Known
	signed := map[string]bool{}
	for i, f := range files {
		for c := 'a'; c < 'f'; c++ {
			known := impl.Known{Name: f.Name + "." + string(c), Type: simpleType(r, 3)}
			all = append(all, known)
			signed[known.Name] = r.Intn(3) == 0
		}
		for _, other := range files {
			lines[i] = append(lines[i], "use "+other.Name)
		}
	}
	for at, known := range all {
		var names typedNames
		for before, other := range all {
			text := other.Name
			if text[:1] == known.Name[:1] {
				text = text[2:]
			}
			if before < at || signed[other.Name] && r.Intn(6) == 0 {
				names = append(names, impl.Known{Name: text, Type: other.Type})
			}
		}
		lines[at/5] = append(lines[at/5], typedLines(r, known.Name[2:], known.Type, signed[known.Name], names)...)
	}
	for i := range files {
		files[i].Text = textOf(lines[i]...)
	}
	return files
}

// plainSafe follows the chapter word by word.
func plainSafe(files []impl.File, full string) bool {
	for _, name := range append(impl.NeedsOf(files, full[:1], full[2:]), full) {
		if code, _ := impl.CodeOf(files, name[:1], name[2:]); code != impl.NameOk {
			return false
		}
	}
	return true
}

// TestSafeNamesDoNotGoWrong checks promise 12: a name that is checked with all
// that it needs does not go wrong. Its value has the shape of its type.
func TestSafeNamesDoNotGoWrong(t *testing.T) {
	r := rand.New(rand.NewSource(122))
	count := map[string]int{}
	for round := range 600 {
		files := [](func(*rand.Rand) []impl.File){randomDefs, randomScopes, randomTyped, randomTyped}[round%4](r)
		for _, full := range impl.AllNames(files) {
			safe := impl.SafeName(files, full[:1], full[2:])
			if safe != plainSafe(files, full) {
				t.Fatalf("%q: SafeName(%s) = %v", files, full, safe)
			}
			text, code := impl.EvalName(files, full[:1], full[2:], impl.MaxFuel)
			if !safe {
				count["unsafe "+map[bool]string{true: "fine", false: "wrong"}[code <= impl.EvalFuel]]++
				continue
			}
			x, found := impl.TypeOf(files, full[:1], full[2:])
			if found != impl.NameOk || code != impl.EvalOk && code != impl.EvalFuel || code == impl.EvalOk && !impl.ShapeFits(x, text) {
				t.Fatalf("%q: %s, of the type %s, is %s, %d", files, full, impl.FormatType(x), text, code)
			}
			count[map[int]string{impl.EvalOk: "value", impl.EvalFuel: "fuel"}[code]]++
			if !strings.Contains(impl.FormatType(x), ">") {
				count["plain value"]++
			}
			if len(impl.NeedsOf(files, full[:1], full[2:])) > 2 {
				count["many needs"]++
			}
		}
	}
	if count["value"] < 1500 || count["fuel"] < 400 || count["plain value"] < 1000 || count["many needs"] < 700 || count["unsafe fine"] < 500 || count["unsafe wrong"] < 500 {
		t.Errorf("the names are %v", count)
	}
}

// TestSafeExprsDoNotGoWrong checks promise 12 for expressions that have a type
// and use safe names, so that functions of files are called from others.
func TestSafeExprsDoNotGoWrong(t *testing.T) {
	r := rand.New(rand.NewSource(123))
	count := map[string]int{}
	for range 160 {
		files := randomTyped(r)
		for _, f := range files {
			var safe []impl.Known
			for name, def := range plainProgramOf(files)[f.Name] {
				if last := name[len(name)-1:]; impl.SafeName(files, def.file, last) {
					x, _ := impl.TypeOf(files, def.file, last)
					safe = append(safe, impl.Known{Name: name, Type: x})
				}
			}
			slices.SortFunc(safe, func(a, b impl.Known) int { return strings.Compare(a.Name, b.Name) })
			for range 20 {
				e, ok := impl.ParseExpr(typedExpr(r, simpleType(r, 3), 2+r.Intn(4), safe))
				x, found := impl.InferExpr(safe, e)
				if !ok || found != impl.InferOk {
					continue
				}
				text, code := impl.EvalExpr(files, f.Name, e, impl.MaxFuel)
				if code != impl.EvalOk && code != impl.EvalFuel || code == impl.EvalOk && !impl.ShapeFits(x, text) {
					t.Fatalf("%q: %s, of the type %s, is %s, %d in %s", files, rawExpr(e), impl.FormatType(x), text, code, f.Name)
				}
				count[map[int]string{impl.EvalOk: "value", impl.EvalFuel: "fuel"}[code]]++
				if strings.Contains(rawExpr(e), ".") && code == impl.EvalOk {
					count["file"]++
				}
			}
		}
	}
	if count["value"] < 2000 || count["fuel"] < 1000 || count["file"] < 1500 {
		t.Errorf("the expressions are %v", count)
	}
}

func TestSafeName(t *testing.T) {
	for _, c := range []struct {
		files     []impl.File
		safe, not []string
	}{
		// By themselves.
		{filesOf("A", "x = 1\ny = \\n.n\nt = (1 1)\nw = v\nc = c\nd = 1\nd = (1 1)\nu : I\ns : (I*I)\ns = 1\ng : (a>a)\ng = \\n.(n+1)"), []string{"A.x", "A.y", "A.d"}, []string{"A.t", "A.w", "A.c", "A.u", "A.s", "A.g", "A.q", "B.x"}},
		// By what they need, directly and not directly.
		{filesOf("A", "x = y\ny = z\nz = 1\nt = (u,1)\nu = (v,1)\nv = (1 1)"), []string{"A.x", "A.y", "A.z"}, []string{"A.t", "A.u", "A.v"}},
		// A signature gives a type to what is wrong, but does not make it safe.
		{filesOf("A", "x = (y+1)\ny : I\ny = (1 1)\nz = x"), nil, []string{"A.x", "A.y", "A.z"}}, {filesOf("A", "x = y\ny : I\ny = z\nz : I\nz = w"), nil, []string{"A.x", "A.y", "A.z"}}, {filesOf("A", "x = y\ny : I\ny = z\nz : I\nz = 1"), []string{"A.x", "A.y", "A.z"}, nil},
		{filesOf("A", doubled+"x : I\nx = (e,e)\ny = (x+1)"), []string{"A.e"}, []string{"A.f", "A.x", "A.y"}},
		// Signed names can need themselves, and each other.
		{filesOf("A", "g : (I>I)\ng = \\n.?<n,(g (n+99)),5>\nx = (g 3)\nl : a\nl = l\nm = (l l)"), []string{"A.g", "A.x", "A.l", "A.m"}, nil}, {filesOf("A", "x : I\nx = y\ny : I\ny = x\nz = (x,y)"), []string{"A.x", "A.y", "A.z"}, nil}, {filesOf("A", "x : I\nx = y\ny = x"), []string{"A.x", "A.y"}, nil}, {filesOf("A", "x : I\nx = (y,w)\ny = x"), nil, []string{"A.x", "A.y"}}, {filesOf("A", "x = x\ny = 1"), []string{"A.y"}, []string{"A.x"}},
		// In another file, and by way of one that is safe there.
		{filesOf("A", "use B\nx = B.x\ny = B.y\nz = B.z", "B", "use C\nx = 1\ny : I\ny = (1 1)\nz = C.z", "C", "z : I\nz = w"), []string{"A.x", "B.x"}, []string{"A.y", "B.y", "A.z", "B.z", "C.z"}}, {filesOf("B", "use C\nz = C.z", "C", "z : I\nz = 1", "A", "use B\nz = B.z"), []string{"A.z", "B.z", "C.z"}, nil},
		{filesOf("A", "use B\nx = B.x", "B", "x = A.y", "C", "x = B.x"), nil, []string{"A.x", "B.x", "C.x"}}, {filesOf("A", "use A\nx = 1\ny = A.x"), []string{"A.x"}, []string{"A.y"}},
		// What is not needed does not matter: other lines with faults, and hidden names.
		{filesOf("A", "(\nuse Q\nt = (1 1)\nx = \\t.t\ny = {t=1;t}\nz = {t=t;1}\nx = t"), []string{"A.x", "A.y"}, []string{"A.z", "A.t"}},
		// Whether a part with a fault is ever evaluated does not matter.
		{filesOf("A", "x = ?<0,w,1>\ny = \\n.w\nz = ?<0,(1 1),1>\nu = \\n.u\nv = ^(1,y)"), nil, []string{"A.x", "A.y", "A.z", "A.u", "A.v"}},
	} {
		for want, list := range map[bool][]string{true: c.safe, false: c.not} {
			for _, full := range list {
				if got := impl.SafeName(c.files, full[:1], full[2:]); got != want {
					t.Errorf("%q: SafeName(%s) = %v", c.files, full, got)
				}
			}
		}
	}
}

// TestLongSafeNames has as many names as there is room for, with very many ways.
func TestLongSafeNames(t *testing.T) {
	for last, want := range map[string]string{"1": "fuel", "Q.a": "lost", "(1 1)": "wrong", "A.a": "fuel"} {
		files := longWays(last)
		for _, full := range []string{"A.a", "B.b", "D.y"} {
			if got := impl.SafeName(files, full[:1], full[2:]); got != (last == "1") {
				t.Errorf("with %s, SafeName(%s) = %v", last, full, got)
			}
		}
		if got := evaluated(impl.EvalName(files, "A", "a", impl.MaxFuel)); got != want {
			t.Errorf("with %s, A.a is %s", last, got)
		}
	}
}

// shapeRule is an expression for the texts of values that fit a type.
func shapeRule(x impl.Type) string {
	switch x.Kind {
	case impl.TypeNum:
		return "(0|[1-9][0-9]?)"
	case impl.TypeFun:
		return "fun"
	case impl.TypePair:
		return `\(` + shapeRule(x.Kids[0]) + "," + shapeRule(x.Kids[1]) + `\)`
	}
	return "[^\x00-\U0010ffff]"
}

func TestShapeFits(t *testing.T) {
	for _, c := range []struct {
		text     string
		fit, not []string
	}{
		{"I", []string{"0", "1", "9", "10", "42", "99"}, []string{"", "00", "01", "09", "010", "100", "101", "999", "1000", "18446744073709551617", "9223372036854775808", "-0", "-1", "+1", "1 ", " 1", "1\n", "1.0", "0x1", "1e1", "1_0", "a", "I", "fun", "(1)", "(1,1)", "1,1", "1)", "(1", "\x00", "\xff", "\xd9\xa1", "1\x00", ":", "/"}},
		{"(I>I)", []string{"fun"}, []string{"", "fu", "func", "fun ", " fun", "Fun", "FUN", "unf", "funfun", "(fun)", "fun,fun", "(fun,fun)", "0", "1", "x", "\\x.x", "(I>I)", "fun\x00"}},
		{"(I*I)", []string{"(1,2)", "(0,0)", "(99,10)"}, []string{"", "1", "fun", "(1,2", "1,2)", "1,2", "(1 2)", "(1,2)1", "((1,2))", "(1,02)", "(00,2)", "(100,2)", "(1,100)", "(1,fun)", "(fun,1)", "(1,(2,3))", "((1,2),3)", "(,)", "(1,)", "(,2)", "()", "(", ")", "(1, 2)", "( 1,2)", "(1,2 )", "(1,2) ", " (1,2)", "(1,2,3)", "(1;2)", "[1,2]", "(1*2)", "(12)", "(1,2))", "(1,2)(1,2)"}},
		{"(I*(a>a))", []string{"(1,fun)"}, []string{"(fun,1)", "(1,1)", "(fun,fun)", "(1,fun", "(1,func)", "(1,)", "(01,fun)", "(100,fun)"}},
		{"((I*I)*((I>I)*I))", []string{"((1,2),(fun,3))"}, []string{"((1,2),(3,fun))", "((1,2),(3,4))", "((1,2),fun)", "(((1,2),fun),3)", "(1,(2,(fun,3)))", "((1,2)(fun,3))", "((1,2),(fun,3)))", "((1,2),(fun,03))"}},
		// Nothing is said of what is inside of functions.
		{"(a>b)", []string{"fun"}, []string{"1", "(1,1)", ""}}, {"((a*b)>(I*c))", []string{"fun"}, []string{"(1,1)", "(fun,fun)", "((1,1)>(1,1))"}}, {"((I*I)>I)", []string{"fun"}, []string{"1", "(1,1)"}}, {"(I>(I>I))", []string{"fun"}, []string{"(fun,fun)"}}, {"(((I>I)*a)*(a>(a*a)))", nil, []string{"((fun,1),fun)", "((fun,fun),fun)", "(fun,fun)"}}, {"(((I>I)*I)*(a>(a*a)))", []string{"((fun,1),fun)"}, []string{"((fun,1),(1,1))"}},
		// There is no value where the type has a variable.
		{"a", nil, []string{"", "1", "0", "fun", "(1,1)", "a"}}, {"z", nil, []string{"1", "fun", "z"}}, {"(a*I)", nil, []string{"(1,1)", "(fun,1)", "(a,1)", "(,1)"}}, {"(I*a)", nil, []string{"(1,1)", "(1,fun)", "(1,)", "(1,a)"}}, {"((a>a)*a)", nil, []string{"(fun,fun)", "(fun,1)", "(fun,)"}}, {"(I*(I*(I*b)))", nil, []string{"(1,(1,(1,1)))", "(1,(1,(1,)))"}},
	} {
		x := typeOf(t, c.text)
		for want, list := range map[bool][]string{true: c.fit, false: c.not} {
			for _, text := range list {
				if got := impl.ShapeFits(x, text); got != want {
					t.Errorf("ShapeFits(%s, %q) = %v", c.text, text, got)
				}
			}
		}
	}
	for n := range 200 {
		if got := impl.ShapeFits(number, strconv.Itoa(n)); got != (n <= impl.MaxNum) {
			t.Errorf("ShapeFits(I, %d) = %v", n, got)
		}
	}
}

// TestShapeFitsAllTexts compares all small types with texts that fit one of
// them, and texts that differ in one byte from these.
func TestShapeFitsAllTexts(t *testing.T) {
	texts := map[string]bool{"": true}
	for _, shape := range typeTexts(5, "I") {
		text := strings.ReplaceAll(strings.ReplaceAll(shape, "*", ","), "I", "17")
		for strings.Contains(text, "(17>17)") {
			text = strings.ReplaceAll(text, "(17>17)", "fun")
		}
		texts[text] = true
		for i := range text {
			texts[text[:i]+text[i+1:]] = true
			for _, c := range []string{"0", "1", "(", ")", ",", "f", "n", "fun", " "} {
				texts[text[:i]+c+text[i:]], texts[text[:i]+c+text[i+1:]] = true, true
			}
		}
	}
	fit := 0
	for _, x := range typesOf(t, typeTexts(5, "I", "a")) {
		rule := regexp.MustCompile(`\A` + shapeRule(x) + `\z`)
		for text := range texts {
			got := impl.ShapeFits(x, text)
			if got != rule.MatchString(text) {
				t.Fatalf("ShapeFits(%s, %q) = %v", rawText(x), text, got)
			}
			if got {
				fit++
			}
		}
	}
	if len(texts) < 500 || fit < 100 {
		t.Errorf("of %d texts, %d fit", len(texts), fit)
	}
}

// TestShapeFitsLimits has types that are just valid, and types that are not.
func TestShapeFitsLimits(t *testing.T) {
	shape := func(x impl.Type, leaf string) string {
		return strings.ReplaceAll(strings.ReplaceAll(rawText(x), "*", ","), "I", leaf)
	}
	deep := number
	for range impl.MaxTypeDepth - 1 {
		deep = pair(number, deep)
	}
	for _, x := range []impl.Type{deep, full(6, number), {Kind: impl.TypeNum, Kids: []impl.Type{}}} {
		if !impl.ShapeFits(x, shape(x, "99")) || impl.ShapeFits(x, shape(x, "100")) || impl.ShapeFits(x, shape(x, "99")+")") || impl.ShapeFits(x, "("+shape(x, "99")) {
			t.Errorf("ShapeFits of %s is wrong", rawText(x))
		}
	}
	if !impl.ShapeFits(fun(full(5, number), full(5, variable(25))), "fun") || impl.ShapeFits(full(6, variable(7)), shape(full(6, number), "1")) {
		t.Error("ShapeFits with variables is wrong")
	}
	texts := []string{"", "0", "1", "fun", "(1,1)", "(1,fun)", "(fun,1)", "(1,(fun,1))", "((1,1),1)", "a", shape(pair(number, deep), "1"), shape(full(7, number), "1"), shape(pair(full(6, number), number), "1")}
	for i, bad := range badTypes() {
		for _, text := range texts {
			if impl.ShapeFits(bad, text) {
				t.Errorf("ShapeFits(bad type %d, %s) = true", i, text)
			}
		}
	}
	// Texts that go on for long.
	long := strings.Repeat("1", 100000)
	for _, text := range []string{long, strings.Repeat("0", 100000), strings.Repeat("(", 100000), strings.Repeat("(1,", 50000), strings.Repeat("fun", 50000), "(" + long + ",1)"} {
		for _, x := range []impl.Type{number, fun(number, number), pair(number, number), deep} {
			if impl.ShapeFits(x, text) {
				t.Errorf("ShapeFits(%s, %.10s..) = true", rawText(x), text)
			}
		}
	}
}

// checkNoEval checks that a file, or its name, is not evaluated.
func checkNoEval(t *testing.T, files []impl.File, file string) {
	t.Helper()
	for _, e := range []impl.Expr{numExpr(1), nameExpr("x"), nameExpr("A.x"), nameExpr("q")} {
		for _, fuel := range []int{0, 1, impl.MaxFuel} {
			if got := evaluated(impl.EvalExpr(files, file, e, fuel)); got != "invalid" {
				t.Errorf("%.50q, %q: %s is %s", files, file, rawExpr(e), got)
			}
		}
	}
	checkNoEvalName(t, files, file, "x")
}

// checkNoEvalName checks that a name has no expression.
func checkNoEvalName(t *testing.T, files []impl.File, file, name string) {
	t.Helper()
	for _, fuel := range []int{0, 1, impl.MaxFuel} {
		if got := evaluated(impl.EvalName(files, file, name, fuel)); got != "invalid" {
			t.Errorf("%.50q, %q, %q is %s", files, file, name, got)
		}
	}
	if impl.SafeName(files, file, name) {
		t.Errorf("%.50q: SafeName(%q, %q) = true", files, file, name)
	}
}

// TestNoEvalFiles has lists of files that are not valid, and files that do not exist.
func TestNoEvalFiles(t *testing.T) {
	text := "use B\nuse C\nx = 1\ny = x\nv = B.x"
	lists := [][]impl.File{
		nil, {}, filesOf("A", text, "A", text), filesOf("A", text, "B", text, "A", ""), filesOf("A", text, "B", text, "C", text, "D", text, "E", text), filesOf("A", text, "B", "", "C", "", "D", "", "E", ""),
		filesOf("A", text+"\n--"+strings.Repeat("-", impl.MaxText)), filesOf("A", text+strings.Repeat("\n", impl.MaxFileLine)), filesOf("A", text, "B", longest+"x"), filesOf("A", text, "B", strings.Repeat("\n", impl.MaxFileLine)),
	}
	for _, bad := range badFileNames() {
		lists = append(lists, filesOf("A", text, bad, text), filesOf(bad, text, "A", text))
	}
	for _, files := range append(lists, invalidFiles()...) {
		names := []string{"A", "B", "Q", ""}
		for _, f := range files[:min(4, len(files))] {
			names = append(names, f.Name)
		}
		for _, file := range names {
			checkNoEval(t, files, file)
		}
	}
	files := filesOf("A", text, "B", "x = 1\nuse A")
	for _, file := range append(badFileNames(), "C", "Q", "x", "AB", "\xff") {
		checkNoEval(t, files, file)
	}
}

// TestNoEvalNames has names without definitions, and strings that are no names.
func TestNoEvalNames(t *testing.T) {
	files := filesOf("A", "use B\nx = (y,B.x)\ny : I\ny = x\nz : I\nu = (1\n(\n-- t = 1", "B", "x = 1\no = 2")
	for _, name := range append(badValueNames(), "z", "w", "u", "t", "o", "B.o", "", "A.x", "x ", "xx", ".x", "x.", "\x00", "\xff") {
		checkNoEvalName(t, files, "A", name)
	}
	for _, file := range append(badFileNames(), "C", "Q", "x", "AB", "\xff") {
		for _, name := range []string{"x", "y", "", "A.x", ".x", "x.x"} {
			checkNoEvalName(t, files, file, name)
		}
	}
}

// TestNoEvalFuel has fuel that is not valid.
func TestNoEvalFuel(t *testing.T) {
	files := filesOf("A", "x = 1\nl = l")
	for _, fuel := range []int{-1, -2, -impl.MaxFuel, impl.MaxFuel + 1, impl.MaxFuel + 2, 2 * impl.MaxFuel, math.MinInt, math.MaxInt} {
		for _, text := range []string{"1", "x", "l", "q", "(1 1)"} {
			if got := evaluated(impl.EvalExpr(files, "A", parsedExpr(t, text), fuel)); got != "invalid" {
				t.Errorf("%s with %d units is %s", text, fuel, got)
			}
		}
		for _, name := range []string{"x", "l", "q"} {
			if got := evaluated(impl.EvalName(files, "A", name, fuel)); got != "invalid" {
				t.Errorf("%s with %d units is %s", name, fuel, got)
			}
		}
	}
}

// TestNoEvalExprs has expressions that are not valid, some of them only where they would not be evaluated.
func TestNoEvalExprs(t *testing.T) {
	files := filesOf("A", "x = 1")
	for i, bad := range badExprs() {
		for _, fuel := range []int{0, 3, impl.MaxFuel} {
			if got := evaluated(impl.EvalExpr(files, "A", bad, fuel)); got != "invalid" {
				t.Errorf("bad expression %d with %d units is %s", i, fuel, got)
			}
		}
		if i%10 > 0 {
			continue
		}
		for _, e := range []impl.Expr{exprOf(impl.ExprFun, "x", bad), exprOf(impl.ExprIf, "", numExpr(1), numExpr(2), bad), exprOf(impl.ExprApp, "", numExpr(1), exprOf(impl.ExprFun, "x", bad))} {
			if got := evaluated(impl.EvalExpr(files, "A", e, impl.MaxFuel)); got != "invalid" {
				t.Errorf("an expression with bad expression %d is %s", i, got)
			}
		}
	}
}

// TestEvalArgumentsAreKept checks that no function changes its arguments, or
// memory behind them, and that results depend on nothing else.
func TestEvalArgumentsAreKept(t *testing.T) {
	r := rand.New(rand.NewSource(124))
	want := typeOf(t, "((I>b)*I)")
	for range 60 {
		longer := append(randomTyped(r), filesOf("E", "a = 1")...)
		before := slices.Clone(longer)
		files := longer[:len(longer)-1]
		other := slices.Clone(files)
		r.Shuffle(len(other), func(i, j int) { other[i], other[j] = other[j], other[i] })
		e := randomUse(r, 5, []impl.Known{{Name: "a"}, {Name: "b"}, {Name: "A.a"}, {Name: "B.c"}}, nil)
		copied := copyExpr(e)
		for _, f := range longer {
			first := evaluated(impl.EvalExpr(files, f.Name, e, impl.MaxFuel))
			again, shuffled := evaluated(impl.EvalExpr(files, f.Name, e, impl.MaxFuel)), evaluated(impl.EvalExpr(other, f.Name, e, impl.MaxFuel))
			name, otherName := evaluated(impl.EvalName(files, f.Name, "a", 50)), evaluated(impl.EvalName(other, f.Name, "a", 50))
			safe, otherSafe := impl.SafeName(files, f.Name, "e"), impl.SafeName(other, f.Name, "e")
			if first != again || first != shuffled || name != otherName || safe != otherSafe || f.Name == "E" && (first != "invalid" || name != "invalid" || safe) {
				t.Errorf("%q, %s: %s is %s, %s and %s; a is %s and %s; e is safe: %v and %v", files, f.Name, rawExpr(e), first, again, shuffled, name, otherName, safe, otherSafe)
			}
		}
		impl.ShapeFits(want, "(fun,1)")
		if !slices.Equal(longer, before) || !equalExprs(e, copied) || rawText(want) != "((I>b)*I)" {
			t.Errorf("the files became %v, the expression %s, and the type %s", longer, rawExpr(e), rawText(want))
		}
	}
}
