package tests

import (
	"math"
	"math/rand"
	"slices"
	"strconv"
	"strings"
	"testing"

	"loop.example/livetyper/impl"
)

func numExpr(n int) impl.Expr {
	return impl.Expr{Kind: impl.ExprNum, N: n}
}

// nameExpr is the name x, or A.x.
func nameExpr(text string) impl.Expr {
	if len(text) == 3 {
		return impl.Expr{Kind: impl.ExprName, Mod: text[:1], Name: text[2:]}
	}
	return impl.Expr{Kind: impl.ExprName, Name: text}
}

// exprOf is a node with operands; name is empty unless the kind has one.
func exprOf(kind int, name string, kids ...impl.Expr) impl.Expr {
	return impl.Expr{Kind: kind, Name: name, Kids: kids}
}

// kindsWithOperands has each kind with operands, with its name and their number.
var kindsWithOperands = []struct {
	kind int
	name string
	kids int
}{
	{impl.ExprFun, "x", 1},
	{impl.ExprApp, "", 2},
	{impl.ExprAdd, "", 2},
	{impl.ExprLet, "x", 2},
	{impl.ExprIf, "", 3},
	{impl.ExprPair, "", 2},
	{impl.ExprFst, "", 1},
	{impl.ExprSnd, "", 1},
}

// rawExpr writes any expression as its text, without limits.
func rawExpr(e impl.Expr) string {
	var kids []string
	for _, kid := range e.Kids {
		kids = append(kids, rawExpr(kid))
	}
	switch e.Kind {
	case impl.ExprNum:
		return strconv.Itoa(e.N)
	case impl.ExprName:
		if e.Mod != "" {
			return e.Mod + "." + e.Name
		}
		return e.Name
	case impl.ExprFun:
		return "\\" + e.Name + "." + kids[0]
	case impl.ExprApp:
		return "(" + kids[0] + " " + kids[1] + ")"
	case impl.ExprAdd:
		return "(" + kids[0] + "+" + kids[1] + ")"
	case impl.ExprLet:
		return "{" + e.Name + "=" + kids[0] + ";" + kids[1] + "}"
	case impl.ExprIf:
		return "?<" + kids[0] + "," + kids[1] + "," + kids[2] + ">"
	case impl.ExprPair:
		return "(" + kids[0] + "," + kids[1] + ")"
	case impl.ExprFst:
		return "^" + kids[0]
	}
	return "_" + kids[0]
}

// equalExprs is a plain comparison, for expressions that have an end.
func equalExprs(a, b impl.Expr) bool {
	return a.Kind == b.Kind && a.N == b.N && a.Mod == b.Mod && a.Name == b.Name && slices.EqualFunc(a.Kids, b.Kids, equalExprs)
}

func zeroExpr(e impl.Expr) bool {
	return equalExprs(e, impl.Expr{})
}

func zeroType(x impl.Type) bool {
	return x.Kind == 0 && x.N == 0 && len(x.Kids) == 0
}

// isBadAt reports whether l is a LineBad with this column, and nothing else.
func isBadAt(l impl.Line, col int) bool {
	return l.Kind == impl.LineBad && l.Col == col && l.Name == "" && zeroType(l.Type) && zeroExpr(l.Expr)
}

// deepExpr is an expression of this depth, with one node for each level.
func deepExpr(depth int) impl.Expr {
	e := nameExpr("y")
	for i := 1; i < depth; i++ {
		e = exprOf([]int{impl.ExprFst, impl.ExprSnd}[i%2], "", e)
	}
	return e
}

// chainExpr is an expression of this depth, in which each kind is used in turn, and goes on with its last operand.
func chainExpr(depth int) impl.Expr {
	e := numExpr(99)
	for i := 1; i < depth; i++ {
		k := kindsWithOperands[i%len(kindsWithOperands)]
		kids := slices.Repeat([]impl.Expr{numExpr(0)}, k.kids)
		kids[len(kids)-1] = e
		e = exprOf(k.kind, k.name, kids...)
	}
	return e
}

// wideExpr is an expression of this number of nodes, of which none is deep.
func wideExpr(nodes int) impl.Expr {
	switch {
	case nodes == 1:
		return numExpr(7)
	case nodes == 2:
		return exprOf(impl.ExprFst, "", nameExpr("A.x"))
	}
	half := (nodes - 1) / 2
	return exprOf(impl.ExprAdd, "", wideExpr(half), wideExpr(nodes-1-half))
}

// randomExpr is an expression of at most this depth with few names.
func randomExpr(r *rand.Rand, depth int) impl.Expr {
	if depth == 1 || r.Intn(5) == 0 {
		switch r.Intn(4) {
		case 0:
			return numExpr(r.Intn(100))
		case 1:
			return nameExpr(string("ABZ"[r.Intn(3)]) + "." + string("axz"[r.Intn(3)]))
		}
		return nameExpr(string("axyz"[r.Intn(4)]))
	}
	k := kindsWithOperands[r.Intn(len(kindsWithOperands))]
	e := exprOf(k.kind, k.name)
	if k.name != "" {
		e.Name = string("axyz"[r.Intn(4)])
	}
	for range k.kids {
		e.Kids = append(e.Kids, randomExpr(r, depth-1))
	}
	return e
}

// exprsUpTo returns all expressions of at most this many nodes, with these leaves and x as the name that is bound.
func exprsUpTo(nodes int, leaves []impl.Expr) []impl.Expr {
	bySize := make([][]impl.Expr, nodes+1)
	bySize[1] = leaves
	for size := 2; size <= nodes; size++ {
		for _, k := range kindsWithOperands {
			for _, kids := range operandLists(bySize, k.kids, size-1) {
				bySize[size] = append(bySize[size], exprOf(k.kind, k.name, kids...))
			}
		}
	}
	return slices.Concat(bySize...)
}

// operandLists returns all lists of count expressions that have as many nodes together.
func operandLists(bySize [][]impl.Expr, count, nodes int) [][]impl.Expr {
	if count == 0 {
		if nodes == 0 {
			return [][]impl.Expr{nil}
		}
		return nil
	}
	var lists [][]impl.Expr
	for first := 1; first <= nodes; first++ {
		for _, rest := range operandLists(bySize, count-1, nodes-first) {
			for _, e := range bySize[first] {
				lists = append(lists, append([]impl.Expr{e}, rest...))
			}
		}
	}
	return lists
}

// goodExprs are valid expressions, at the limits too.
func goodExprs() []impl.Expr {
	list := exprsUpTo(4, []impl.Expr{numExpr(0), numExpr(99), nameExpr("x"), nameExpr("A.x")})
	for n := range impl.MaxNum + 1 {
		list = append(list, numExpr(n))
	}
	for c := 'a'; c <= 'z'; c++ {
		x := string(c)
		file := strings.ToUpper(x)
		list = append(list, nameExpr(x), nameExpr(file+"."+x), exprOf(impl.ExprFun, x, nameExpr(x)), exprOf(impl.ExprLet, x, nameExpr(x), nameExpr(x)))
	}
	list = append(list, impl.Expr{Kind: impl.ExprNum, Kids: []impl.Expr{}})
	return append(list, deepExpr(impl.MaxDepth), chainExpr(impl.MaxDepth), wideExpr(impl.MaxNodes), wideExpr(impl.MaxNodes-1))
}

// badExprNodes are expressions whose root is not valid.
func badExprNodes() []impl.Expr {
	kids := func(n int) []impl.Expr { return slices.Repeat([]impl.Expr{numExpr(1)}, n) }
	list := []impl.Expr{{}, {Kids: kids(1)}, {Name: "x"}}
	for _, kind := range []int{-1, 0, 11, 12, math.MinInt, math.MaxInt} {
		list = append(list, impl.Expr{Kind: kind}, impl.Expr{Kind: kind, Kids: kids(2)}, impl.Expr{Kind: kind, Name: "x", Kids: kids(1)})
	}
	for _, n := range []int{-1, impl.MaxNum + 1, math.MinInt, math.MaxInt} {
		list = append(list, numExpr(n))
	}
	list = append(list,
		impl.Expr{Kind: impl.ExprNum, Name: "x"},
		impl.Expr{Kind: impl.ExprNum, Mod: "A"},
		impl.Expr{Kind: impl.ExprNum, Kids: kids(1)},
		impl.Expr{Kind: impl.ExprName, Name: "x", N: 1},
		impl.Expr{Kind: impl.ExprName, Name: "x", N: -1},
		impl.Expr{Kind: impl.ExprName, Name: "x", Kids: kids(1)},
		impl.Expr{Kind: impl.ExprName, Mod: "A"})
	for _, name := range badValueNames() {
		list = append(list, impl.Expr{Kind: impl.ExprName, Name: name}, impl.Expr{Kind: impl.ExprName, Mod: "A", Name: name},
			exprOf(impl.ExprFun, name, kids(1)...), exprOf(impl.ExprLet, name, kids(2)...))
	}
	for _, mod := range []string{"a", "AB", "1", "@", "[", "A.", " ", "\xc9", "É"} {
		list = append(list, impl.Expr{Kind: impl.ExprName, Mod: mod, Name: "x"})
	}
	for _, k := range kindsWithOperands {
		list = append(list,
			impl.Expr{Kind: k.kind, Name: k.name, N: 1, Kids: kids(k.kids)},
			impl.Expr{Kind: k.kind, Name: k.name, N: -1, Kids: kids(k.kids)},
			impl.Expr{Kind: k.kind, Name: k.name, Mod: "A", Kids: kids(k.kids)})
		for n := range 6 {
			if n != k.kids {
				list = append(list, exprOf(k.kind, k.name, kids(n)...))
			}
		}
		if k.name == "" {
			list = append(list, exprOf(k.kind, "x", kids(k.kids)...))
		}
	}
	return list
}

func badValueNames() []string {
	return []string{"", "A", "xy", "x ", " ", "1", "`", "{", "A.x", "\x00", "\xe9", "é"}
}

// loopExpr is an expression that contains itself, after as many sums as links.
func loopExpr(links int) impl.Expr {
	first := exprOf(impl.ExprAdd, "", numExpr(1), numExpr(2))
	e := first
	for range links - 1 {
		e = exprOf(impl.ExprAdd, "", e, numExpr(2))
	}
	first.Kids[0] = e
	return e
}

// badExprs are expressions that are not valid, at the root or further below.
func badExprs() []impl.Expr {
	list := badExprNodes()
	for _, bad := range badExprNodes() {
		for _, k := range kindsWithOperands {
			for at := range k.kids {
				kids := slices.Repeat([]impl.Expr{nameExpr("y")}, k.kids)
				kids[at] = bad
				list = append(list, exprOf(k.kind, k.name, kids...))
			}
		}
		list = append(list, exprOf(impl.ExprFst, "", exprOf(impl.ExprAdd, "", numExpr(1), exprOf(impl.ExprSnd, "", bad))))
	}
	shared := numExpr(1)
	for range 60 {
		shared = exprOf(impl.ExprIf, "", shared, shared, shared)
	}
	manyKids := exprOf(impl.ExprIf, "", make([]impl.Expr, 100000)...)
	for nodes := impl.MaxNodes + 1; nodes < impl.MaxNodes+5; nodes++ {
		list = append(list, wideExpr(nodes))
	}
	return append(list, deepExpr(impl.MaxDepth+1), chainExpr(impl.MaxDepth+1), deepExpr(1000000), wideExpr(2000), shared, manyKids, loopExpr(1), loopExpr(2), loopExpr(40))
}

func TestExprValid(t *testing.T) {
	for _, e := range goodExprs() {
		if !impl.ExprValid(e) {
			t.Errorf("ExprValid(%s) = false", rawExpr(e))
		}
	}
	for i, e := range badExprs() {
		if impl.ExprValid(e) {
			t.Errorf("bad expression %d is valid", i)
		}
	}
}

// TestBadExprs checks that every function refuses what is not a valid expression.
func TestBadExprs(t *testing.T) {
	for i, bad := range badExprs() {
		if s := impl.FormatExpr(bad); s != "" {
			t.Errorf("bad expression %d: FormatExpr = %q", i, s)
		}
		if names := impl.FreeNames(bad); len(names) != 0 {
			t.Errorf("bad expression %d: FreeNames = %q", i, names)
		}
		if s := impl.FormatLine(impl.Line{Kind: impl.LineDef, Name: "x", Expr: bad}); s != "" {
			t.Errorf("bad expression %d: FormatLine = %q", i, s)
		}
	}
}

func TestExprSame(t *testing.T) {
	list := append(exprsUpTo(3, []impl.Expr{numExpr(0), numExpr(1), nameExpr("x"), nameExpr("y"), nameExpr("A.x"), nameExpr("B.x")}), badExprNodes()...)
	other := append(exprsUpTo(3, []impl.Expr{numExpr(0), numExpr(1), nameExpr("x"), nameExpr("y"), nameExpr("A.x"), nameExpr("B.x")}), badExprNodes()...)
	for _, a := range list {
		for _, b := range other {
			if impl.ExprSame(a, b) != equalExprs(a, b) {
				t.Errorf("ExprSame(%v, %v) = %v", a, b, !equalExprs(a, b))
			}
		}
	}
	if !impl.ExprSame(numExpr(1), impl.Expr{Kind: impl.ExprNum, N: 1, Kids: []impl.Expr{}}) {
		t.Error("ExprSame tells nil and empty Kids apart")
	}
}

func TestExprSameLooksAtEveryLevel(t *testing.T) {
	base := exprOf(9, "x", exprOf(-4, "abc", impl.Expr{Kind: 1, N: 1000, Mod: "m", Name: "n", Kids: []impl.Expr{{Kind: 5}}}, numExpr(2)))
	changes := []func(e *impl.Expr){
		func(e *impl.Expr) { e.Kids[0].Kind = 4 },
		func(e *impl.Expr) { e.Kids[0].Name = "abcd" },
		func(e *impl.Expr) { e.Kids[0].Kids[0].N = 999 },
		func(e *impl.Expr) { e.Kids[0].Kids[0].Mod = "" },
		func(e *impl.Expr) { e.Kids[0].Kids[0].Name = "N" },
		func(e *impl.Expr) { e.Kids[0].Kids[0].Kids[0].Kind = 6 },
		func(e *impl.Expr) { e.Kids[0].Kids[0].Kids = nil },
		func(e *impl.Expr) { e.Kids[0].Kids[1].N = 3 },
		func(e *impl.Expr) { e.Kids[0].Kids = e.Kids[0].Kids[:1] },
		func(e *impl.Expr) { e.Kids = append(e.Kids, numExpr(1)) },
	}
	for i, change := range changes {
		other := copyExpr(base)
		if !impl.ExprSame(base, other) {
			t.Fatal("a copy is not the same")
		}
		change(&other)
		if impl.ExprSame(base, other) || impl.ExprSame(other, base) {
			t.Errorf("ExprSame does not see change %d", i)
		}
	}
	if !impl.ExprSame(deepExpr(300000), deepExpr(300000)) || impl.ExprSame(deepExpr(300000), deepExpr(300002)) {
		t.Error("ExprSame is wrong for deep expressions")
	}
}

func copyExpr(e impl.Expr) impl.Expr {
	var kids []impl.Expr
	for _, kid := range e.Kids {
		kids = append(kids, copyExpr(kid))
	}
	e.Kids = kids
	return e
}

func TestExprSameOfLoops(t *testing.T) {
	a, b := loopExpr(2), loopExpr(3)
	if !impl.ExprSame(a, a) || !impl.ExprSame(a, b) || !impl.ExprSame(b, exprOf(impl.ExprAdd, "", b, numExpr(2))) {
		t.Error("expressions without an end, equal at every level, are not the same")
	}
	b.Kids[0].Kids[1] = numExpr(3)
	if impl.ExprSame(a, b) || impl.ExprSame(b, a) || impl.ExprSame(a, deepExpr(9)) {
		t.Error("expressions without an end that differ are the same")
	}
	x, y, z := numExpr(1), numExpr(1), numExpr(2)
	for range 60 {
		x, y, z = exprOf(impl.ExprAdd, "", x, x), exprOf(impl.ExprAdd, "", y, y), exprOf(impl.ExprAdd, "", z, z)
	}
	if !impl.ExprSame(x, y) || impl.ExprSame(x, z) {
		t.Error("ExprSame is wrong for expressions whose parts are shared")
	}
	// Kids that begin with the same memory, but are not equally long.
	parts := func(second impl.Expr, first, last int) impl.Expr {
		kids := []impl.Expr{numExpr(1), second}
		return exprOf(20, "", exprOf(9, "", kids[:first]...), exprOf(9, "", kids[:last]...))
	}
	for _, n := range [][2]int{{1, 2}, {2, 1}} {
		x, y, z := parts(numExpr(2), n[0], n[1]), parts(numExpr(2), n[0], n[1]), parts(numExpr(3), n[0], n[1])
		if !impl.ExprSame(x, y) || impl.ExprSame(x, z) || impl.ExprSame(x.Kids[0], x.Kids[1]) {
			t.Error("ExprSame takes a part of Kids for all of them")
		}
	}
}

func TestExprTexts(t *testing.T) {
	x, y := nameExpr("x"), nameExpr("y")
	cases := []struct {
		e    impl.Expr
		text string
	}{
		{numExpr(0), "0"},
		{numExpr(9), "9"},
		{numExpr(10), "10"},
		{numExpr(99), "99"},
		{x, "x"},
		{nameExpr("Z.a"), "Z.a"},
		{exprOf(impl.ExprFun, "x", y), "\\x.y"},
		{exprOf(impl.ExprApp, "", x, y), "(x y)"},
		{exprOf(impl.ExprAdd, "", x, y), "(x+y)"},
		{exprOf(impl.ExprLet, "z", x, y), "{z=x;y}"},
		{exprOf(impl.ExprIf, "", x, y, numExpr(1)), "?<x,y,1>"},
		{exprOf(impl.ExprPair, "", x, y), "(x,y)"},
		{exprOf(impl.ExprFst, "", x), "^x"},
		{exprOf(impl.ExprSnd, "", x), "_x"},
		{exprOf(impl.ExprFun, "x", exprOf(impl.ExprFst, "", exprOf(impl.ExprPair, "", nameExpr("A.x"), numExpr(12)))), "\\x.^(A.x,12)"},
	}
	for _, c := range cases {
		if s := impl.FormatExpr(c.e); s != c.text {
			t.Errorf("FormatExpr = %q, not %q", s, c.text)
		}
		if e, ok := impl.ParseExpr(c.text); !ok || !equalExprs(e, c.e) {
			t.Errorf("ParseExpr(%q) = %v, %v", c.text, e, ok)
		}
	}
}

// TestExprsAreReadBack checks promise 3 for all small expressions, those at the limits, and random ones, as lines too.
func TestExprsAreReadBack(t *testing.T) {
	list := goodExprs()
	r := rand.New(rand.NewSource(3))
	for len(list) < 40000 {
		if e := randomExpr(r, 2+r.Intn(6)); impl.ExprValid(e) {
			list = append(list, e)
		}
	}
	for _, e := range list {
		text := rawExpr(e)
		if s := impl.FormatExpr(e); s != text {
			t.Fatalf("FormatExpr = %q, not %q", s, text)
		}
		if back, ok := impl.ParseExpr(text); !ok || !equalExprs(back, e) {
			t.Fatalf("ParseExpr(%q) = %v, %v", text, back, ok)
		}
		line := impl.Line{Kind: impl.LineDef, Name: "q", Expr: e}
		if l := impl.ParseLine("q = " + text); !impl.LineSame(l, line) || !equalExprs(l.Expr, e) || l.Name != "q" {
			t.Fatalf("ParseLine(%q) = %v", "q = "+text, l)
		}
		if s := impl.FormatLine(line); s != "q = "+text {
			t.Fatalf("FormatLine = %q, not %q", s, "q = "+text)
		}
	}
}

func TestParseExprRefuses(t *testing.T) {
	bad := []string{"", " ", " 1", "1 ", "1\n", "01", "00", "007", "100", "-1", "+1", "1.0", "X", "A.", ".x", "A.X", "A.1", "A..x", "A.x.y", "a.x", "AB.x", "xy",
		"\\", "\\x", "\\x.", "\\X.x", "\\1.x", "\\xx", "\\x y", "\\A.x.x", "\\x.x.x", "(", ")", "()", "(x)", "(x y", "(x  y)", "(x y z)", "( x y)", "(x y )", "(x+y", "(x+y+z)", "(x-y)", "(x*y)", "(x>y)", "(+x)", "(x+)", "(x,)", "(,x)", "(x,y,z)", "(x y))", "((x y)",
		"{x=1;x", "{x=1}", "{x=1,x}", "{x;x}", "{X=1;x}", "{A.x=1;x}", "{=1;x}", "{x=;x}", "{x=1;}", "{x = 1;x}", "{x=1;y=2;x}",
		"?", "?<", "?1", "<1,2,3>", "?<1,2>", "?<1,2,3", "?<1,2,3,4>", "?<1;2;3>", "?<1 2 3>", "?(1,2,3)", "^", "_", "^_", "x^", "x_", "^ x",
		"E", "xE", "(E E)", "\\x.E", "\\E.x", "{x=E;E}", "I", "(x\x00y)", "\x00", "x\x00", "é", "\xff", "x\xff", "`", "[", "@", "/", ":",
		rawExpr(deepExpr(impl.MaxDepth + 1)), rawExpr(chainExpr(impl.MaxDepth + 1)), rawExpr(wideExpr(impl.MaxNodes + 1)), rawExpr(wideExpr(1000)),
		strings.Repeat("(", 3000000), strings.Repeat("1", 3000000), strings.Repeat("^", 3000000), strings.Repeat("{x=", 3000000), rawExpr(wideExpr(100000))}
	for _, s := range bad {
		if e, ok := impl.ParseExpr(s); ok || !zeroExpr(e) {
			t.Errorf("ParseExpr(%.40q) = %v, %v", s, e, ok)
		}
	}
}

func TestFreeNames(t *testing.T) {
	cases := []struct {
		text string
		want []string
	}{
		{"1", nil},
		{"x", []string{"x"}},
		{"A.x", []string{"A.x"}},
		{"(x+x)", []string{"x"}},
		{"(x A.x)", []string{"x", "A.x"}},
		{"((A.x x)+(x B.x))", []string{"A.x", "x", "B.x"}},
		{"((z y) (x z))", []string{"z", "y", "x"}},
		{"\\x.x", nil},
		{"\\x.y", []string{"y"}},
		{"\\x.A.x", []string{"A.x"}},
		{"\\x.\\y.((x y) z)", []string{"z"}},
		// Bound twice, and bound still outside of the inner function.
		{"\\x.(\\x.x x)", nil},
		{"\\x.({x=x;x} x)", nil},
		// Bound, and used outside too.
		{"(\\x.x x)", []string{"x"}},
		{"(x \\x.x)", []string{"x"}},
		{"(\\x.(x+y)+x)", []string{"y", "x"}},
		{"(\\x.(x y) (y x))", []string{"y", "x"}},
		// The name of an ExprLet is not bound in its first operand.
		{"{x=1;x}", nil},
		{"{x=x;x}", []string{"x"}},
		{"{x=y;(x z)}", []string{"y", "z"}},
		{"{x=\\x.x;x}", nil},
		{"{x={y=x;y};y}", []string{"x", "y"}},
		{"({x=1;x}+x)", []string{"x"}},
		{"{x=A.x;(x+A.x)}", []string{"A.x"}},
		{"?<c,\\a.(a b),{b=a;b}>", []string{"c", "b", "a"}},
		{"(^a,_b)", []string{"a", "b"}},
		{"\\a.\\z.(a+z)", nil},
		{"\\a.(b+\\b.(a+b))", []string{"b"}},
	}
	for _, c := range cases {
		e, ok := impl.ParseExpr(c.text)
		names := impl.FreeNames(e)
		if !ok || !slices.Equal(names, c.want) {
			t.Errorf("FreeNames(%s) = %q, %v", c.text, names, ok)
		}
		if len(names) > 0 {
			names[0] = "changed"
			if again := impl.FreeNames(e); !slices.Equal(again, c.want) {
				t.Errorf("FreeNames(%s) after a change of its result = %q", c.text, again)
			}
		}
	}
}

// replaceFree replaces a name without a file by another one where it is not bound.
func replaceFree(e impl.Expr, name, to string) impl.Expr {
	if e.Kind == impl.ExprName && e.Mod == "" && e.Name == name {
		return nameExpr(to)
	}
	kids := slices.Clone(e.Kids)
	for i, kid := range kids {
		if e.Name == name && (e.Kind == impl.ExprFun || e.Kind == impl.ExprLet && i == 1) {
			continue
		}
		kids[i] = replaceFree(kid, name, to)
	}
	e.Kids = kids
	return e
}

// TestFreeNamesOfAllExprs compares FreeNames with what replacing one name at a time changes in the texts.
func TestFreeNamesOfAllExprs(t *testing.T) {
	list := exprsUpTo(5, []impl.Expr{nameExpr("x"), nameExpr("y"), nameExpr("A.x")})
	r := rand.New(rand.NewSource(4))
	for range 5000 {
		list = append(list, randomExpr(r, 5))
	}
	for _, e := range list {
		if !impl.ExprValid(e) {
			continue
		}
		text := rawExpr(e)
		first := map[string]int{}
		for _, x := range []string{"a", "x", "y", "z"} {
			// The name q is nowhere else, and as long as the one it replaces.
			if at := strings.IndexByte(rawExpr(replaceFree(e, x, "q")), 'q'); at >= 0 {
				first[x] = at
			}
			for _, file := range []string{"A.", "B.", "Z."} {
				if at := strings.Index(text, file+x); at >= 0 {
					first[file+x] = at
				}
			}
		}
		var want []string
		for name := range first {
			want = append(want, name)
		}
		slices.SortFunc(want, func(a, b string) int { return first[a] - first[b] })
		if names := impl.FreeNames(e); !slices.Equal(names, want) {
			t.Fatalf("FreeNames(%s) = %q, not %q", text, names, want)
		}
	}
}

func TestParseLine(t *testing.T) {
	one := impl.Expr{Kind: impl.ExprNum, N: 1}
	cases := []struct {
		text string
		want impl.Line
	}{
		{"", impl.Line{}},
		{"--", impl.Line{Kind: impl.LineComment}},
		{"---", impl.Line{Kind: impl.LineComment}},
		{"-- x = 1", impl.Line{Kind: impl.LineComment}},
		{"--~ !", impl.Line{Kind: impl.LineComment}},
		{"--" + strings.Repeat("x", impl.MaxText-2), impl.Line{Kind: impl.LineComment}},
		{"use A", impl.Line{Kind: impl.LineUse, Name: "A"}},
		{"use Z", impl.Line{Kind: impl.LineUse, Name: "Z"}},
		{"x : I", impl.Line{Kind: impl.LineSig, Name: "x", Type: number}},
		{"z : (a>(z*I))", impl.Line{Kind: impl.LineSig, Name: "z", Type: fun(variable(0), pair(variable(25), number))}},
		// The variables of a signature stay as they are.
		{"f : (c>b)", impl.Line{Kind: impl.LineSig, Name: "f", Type: fun(variable(2), variable(1))}},
		{"x = 1", impl.Line{Kind: impl.LineDef, Name: "x", Expr: one}},
		{"a = (x+1)", impl.Line{Kind: impl.LineDef, Name: "a", Expr: exprOf(impl.ExprAdd, "", nameExpr("x"), one)}},
		// The letters with which a LineUse begins are names, too.
		{"u = 1", impl.Line{Kind: impl.LineDef, Name: "u", Expr: one}},
		{"u : I", impl.Line{Kind: impl.LineSig, Name: "u", Type: number}},
		{"u = u", impl.Line{Kind: impl.LineDef, Name: "u", Expr: nameExpr("u")}},
		{"s = 1", impl.Line{Kind: impl.LineDef, Name: "s", Expr: one}},
		{"s : I", impl.Line{Kind: impl.LineSig, Name: "s", Type: number}},
		{"e = 1", impl.Line{Kind: impl.LineDef, Name: "e", Expr: one}},
	}
	for _, c := range cases {
		l := impl.ParseLine(c.text)
		if !impl.LineSame(l, c.want) || l.Kind != c.want.Kind || l.Name != c.want.Name || l.Col != 0 || !equalExprs(l.Expr, c.want.Expr) || rawLineType(l) != rawLineType(c.want) {
			t.Errorf("ParseLine(%.40q) = %v", c.text, l)
		}
		want := c.text
		if l.Kind == impl.LineComment {
			want = ""
		}
		if s := impl.FormatLine(l); s != want {
			t.Errorf("FormatLine of %.40q = %q", c.text, s)
		}
	}
}

func rawLineType(l impl.Line) string {
	if l.Kind != impl.LineSig {
		return strconv.Itoa(l.Type.Kind)
	}
	return rawText(l.Type)
}

// TestSignaturesAreReadBack checks promise 3 for all small types, and for those at the limits.
func TestSignaturesAreReadBack(t *testing.T) {
	for _, x := range goodTypes(t) {
		text := "g : " + rawText(x)
		line := impl.Line{Kind: impl.LineSig, Name: "g", Type: x}
		if l := impl.ParseLine(text); !impl.LineSame(l, line) || !impl.TypeSame(l.Type, x) {
			t.Errorf("ParseLine(%q) = %v", text, l)
		}
		if s := impl.FormatLine(line); s != text {
			t.Errorf("FormatLine = %q, not %q", s, text)
		}
	}
}

// TestBytesOfLines checks every byte at each place of a line where a name, a number, a type or an expression can begin.
func TestBytesOfLines(t *testing.T) {
	places := [][2]string{{"", " = 1"}, {"", " : I"}, {"", "se A"}, {"u", " = 1"}, {"-", ""}, {"--", "x"}, {"use ", ""}, {"x = ", ""}, {"x = ", ".x"}, {"x = A.", ""}, {"x = (1", "2)"}, {"x = (12", "3)"}, {"x = (0", ",1)"}, {"x = \\", ".1"}, {"x = {", "=1;2}"}, {"x = ?<", ",1,2>"}, {"x = 1", ""}, {"x : ", ""}, {"x : (", ">I)"}, {"x : (I", "I)"}, {"x : I", ""}}
	for n := range 256 {
		for _, place := range places {
			text := place[0] + string([]byte{byte(n)}) + place[1]
			if ' ' <= n && n <= '~' {
				checkLine(t, text)
			} else if l := impl.ParseLine(text); !isBadAt(l, -1) {
				t.Errorf("ParseLine(%q) = %v", text, l)
			}
		}
	}
}

func TestBadLines(t *testing.T) {
	cases := []struct {
		text string
		col  int
	}{
		{"x = (1+)", 7},
		// Not a line.
		{"\n", -1}, {"x = 1\n", -1}, {"x = 1\ny = 2", -1}, {"X\n", -1}, {"-- \n", -1}, {"x\t", -1}, {"-- \x00", -1}, {"x = \x7f", -1}, {"é", -1}, {"-- é", -1}, {"\xff", -1}, {strings.Repeat("-", impl.MaxText+1), -1}, {strings.Repeat("X", impl.MaxText+1), -1}, {strings.Repeat("(", 3000000), -1},
		// No line begins like this.
		{"X", 0}, {" ", 0}, {" x = 1", 0}, {"1", 0}, {"=", 0}, {"(x", 0}, {"~", 0}, {"`", 0}, {"{", 0}, {"A.x = 1", 0}, {"Use A", 0}, {strings.Repeat("X", impl.MaxText), 0},
		// More is needed.
		{"-", 1}, {"x", 1}, {"x ", 2}, {"x =", 3}, {"x = ", 4}, {"x :", 3}, {"x : ", 4}, {"u", 1}, {"us", 2}, {"use", 3}, {"use ", 4}, {"u ", 2}, {"u =", 3}, {"s", 1}, {"e", 1},
		{"x = (", 5}, {"x = (1", 6}, {"x = (1 ", 7}, {"x = (1 2", 8}, {"x = A", 5}, {"x = A.", 6}, {"x = \\", 5}, {"x = \\x", 6}, {"x = \\x.", 7}, {"x = {", 5}, {"x = {x", 6}, {"x = {x=", 7}, {"x = {x=1", 8}, {"x = {x=1;", 9}, {"x = {x=1;x", 10}, {"x = ?", 5}, {"x = ?<", 6}, {"x = ?<1", 7}, {"x = ?<1,", 8}, {"x = ?<1,2", 9}, {"x = ?<1,2,", 10}, {"x = ?<1,2,3", 11}, {"x = ^", 5}, {"x = _", 5}, {"x = (1,2", 8}, {"x = (1+2", 8},
		{"x : (", 5}, {"x : (I", 6}, {"x : (I>", 7}, {"x : (I>I", 8}, {"x : ((I*I)", 10},
		// Comments and uses.
		{"- ", 1}, {"-x", 1}, {"- -", 1}, {"use a", 4}, {"use 1", 4}, {"use  A", 4}, {"useA", 3}, {"use=", 3}, {"use AB", 5}, {"use A ", 5}, {"use A.x", 5}, {"use -", 4},
		// A line that begins with u and has no space behind it can only be a LineUse.
		{"us = 1", 2}, {"us : I", 2}, {"use = 1", 4}, {"ux", 1}, {"u=", 1}, {"u:", 1}, {"uu = 1", 1}, {"usa", 2}, {"us e", 2}, {"u se A", 2}, {"u use", 2}, {"s A", 2}, {"se A", 1}, {"e A", 2},
		// Names and signs.
		{"x1", 1}, {"xy = 1", 1}, {"x= 1", 1}, {"x: I", 1}, {"x 1", 2}, {"x  = 1", 2}, {"x + 1", 2}, {"x =1", 3}, {"x :I", 3}, {"x == 1", 3}, {"x := 1", 3}, {"x  ", 2}, {"x =  1", 4}, {"x :  I", 4},
		// Numbers.
		{"x = 01", 5}, {"x = 00", 5}, {"x = 0x", 5}, {"x = 100", 6}, {"x = 990", 6}, {"x = 1000", 6}, {"x = (00+1)", 6}, {"x = (1+01)", 8}, {"x = (1+100)", 9}, {"x = -1", 4}, {"x = 1.5", 5}, {"x = 1x", 5},
		// Something behind the end.
		{"x = 1 ", 5}, {"x = 1 -- y", 5}, {"x = x y", 5}, {"x = xy", 5}, {"x = x.y", 5}, {"x = A.xy", 7}, {"x = A.x.y", 7}, {"x = (1+2))", 9}, {"x = {x=1;x}}", 11}, {"x = ?<1,2,3>>", 12}, {"x = ^1^", 6}, {"x : I ", 5}, {"x : II", 5}, {"x : ab", 5}, {"x : (I>I)>I", 9}, {"x : (I>I))", 9},
		// Expressions.
		{"x = )", 4}, {"x = ~", 4}, {"x = E", 5}, {"x = Ex", 5}, {"x = A.1", 6}, {"x = A.B", 6}, {"x = A x", 5}, {"x = AB.x", 5}, {"x = \\1.x", 5}, {"x = \\X.x", 5}, {"x = \\x x", 6}, {"x = \\xy.x", 6}, {"x = \\x..", 7}, {"x = ()", 5}, {"x = (1)", 6}, {"x = (1-2)", 6}, {"x = (1*2)", 6}, {"x = (1>2)", 6}, {"x = (1;2)", 6}, {"x = (1.2)", 6}, {"x = (1 +2)", 7}, {"x = (1+2+3)", 8}, {"x = (1,2,3)", 8}, {"x = (f 1 2)", 8}, {"x = (f  1)", 7}, {"x = ( f 1)", 5},
		{"x = {y;1}", 6}, {"x = {Y=1;1}", 5}, {"x = {1=1;1}", 5}, {"x = {y =1;1}", 6}, {"x = {y=1,1}", 8}, {"x = {y=1}", 8}, {"x = {y=1;1;", 10}, {"x = {y=;1}", 7}, {"x = {y=1;}", 9}, {"x = ?1", 5}, {"x = ?(1,2,3)", 5}, {"x = ?<>", 6}, {"x = ?<1;", 7}, {"x = ?<1 2 3>", 7}, {"x = ?<1>", 7}, {"x = ?<1,2>", 9}, {"x = ?<1,2,3,", 11}, {"x = ?<1,2,3)", 11}, {"x = <1,2,3>", 4}, {"x = ^)", 5}, {"x = ^ 1", 5}, {"x = _+", 5}, {"x = I", 5},
		// Types.
		{"x : 1", 4}, {"x : A", 4}, {"x : ()", 5}, {"x : (I)", 6}, {"x : (I+I)", 6}, {"x : (I,I)", 6}, {"x : (I I)", 6}, {"x : (I >I)", 6}, {"x : (I>)", 7}, {"x : (>I)", 5}, {"x : (I>I>I)", 8}, {"x : (I>I*I)", 8}, {"x : (I>1)", 7}, {"x : x.y", 5}, {"x : \\x.x", 4}, {"x : E", 4}, {"x : (E>E)", 5},
	}
	for _, c := range cases {
		if l := impl.ParseLine(c.text); !isBadAt(l, c.col) {
			t.Errorf("ParseLine(%.40q) = %v, not bad at %d", c.text, l, c.col)
		}
		if s := impl.FormatLine(impl.ParseLine(c.text)); s != "" {
			t.Errorf("FormatLine of the bad line %.40q = %q", c.text, s)
		}
	}
}

func TestLinesAtTheLimits(t *testing.T) {
	tooManyTypes := pair(full(6, number), number)
	cases := []struct {
		name, text string
		col        int
	}{
		{"13 deep", "x = " + rawExpr(deepExpr(13)), 16},
		{"13 deep and more", "x = " + rawExpr(deepExpr(40)), 16},
		{"13 deep, more needed", "x = " + strings.Repeat("^", 12), 16},
		{"13 deep, and no expression", "x = " + strings.Repeat("^", 12) + ")", 16},
		{"12 deep, more needed", "x = " + strings.Repeat("^", 11), 15},
		{"brackets", "x = " + strings.Repeat("(", 1996), 16},
		{"13 deep at the right", "x = " + strings.Repeat("(1+", 11) + "^" + "1", 4 + 3*11 + 1},
		{"12 deep at the right, and no end", "x = " + strings.Repeat("(1+", 11) + "1", 4 + 3*11 + 1},
		{"12 deep, whose operands are too deep", "x = " + strings.Repeat("^", 11) + "(1+1)", 16},
		{"12 deep, whose operand would be too deep, but the name is first", "x = " + strings.Repeat("^", 11) + "{x=1;1}", 18},
		{"12 deep, with another byte before the operand", "x = " + strings.Repeat("^", 11) + "{x;", 17},
		{"12 deep, an if", "x = " + strings.Repeat("^", 11) + "?<1,2,3>", 17},
		{"12 deep, a function", "x = " + strings.Repeat("^", 11) + "\\x.1", 18},
		{"too deep behind another part", "x = (" + rawExpr(deepExpr(11)) + "," + rawExpr(deepExpr(12)) + ")", 4 + 1 + 11 + 1 + 11},
		{"an error before what is too deep", "x = (1-" + rawExpr(deepExpr(12)) + ")", 6},
		{"61 nodes", "x = " + rawExpr(wideExpr(61)), len("x = " + rawExpr(wideExpr(61)))},
		{"400 nodes", "x = " + rawExpr(wideExpr(400)), len("x = " + rawExpr(wideExpr(400)))},
		{"61 nodes and an error behind them", "x = " + rawExpr(wideExpr(61)) + ") ", len("x = " + rawExpr(wideExpr(61)))},
		{"61 nodes in a pair with an error", "x = (" + rawExpr(wideExpr(61)) + ";1)", len("x = (" + rawExpr(wideExpr(61)))},
		{"61 nodes, more needed", "x = (" + rawExpr(wideExpr(61)), len("x = (" + rawExpr(wideExpr(61)))},
		{"many nodes, and too deep at the end", "x = (" + rawExpr(wideExpr(80)) + "," + rawExpr(deepExpr(12)) + ")", len("x = ("+rawExpr(wideExpr(80))+",") + 11},
		{"a type 17 deep", "x : " + strings.Repeat("(", 16) + "I", 20},
		{"a type 17 deep, more needed", "x : " + strings.Repeat("(", 16), 20},
		{"a type with brackets", "x : " + strings.Repeat("(", 1996), 20},
		{"a type 17 deep at the right", "x : " + strings.Repeat("(I>", 15) + "(I>I)", 4 + 3*15 + 1},
		{"a type 16 deep, without its end", "x : " + strings.Repeat("(I>", 15) + "I", 4 + 3*15 + 1},
		{"a type of 65 nodes", "x : " + rawText(tooManyTypes), len("x : " + rawText(tooManyTypes))},
		{"a type of 65 nodes and an error behind it", "x : " + rawText(tooManyTypes) + ">", len("x : " + rawText(tooManyTypes))},
	}
	for _, c := range cases {
		if l := impl.ParseLine(c.text); !isBadAt(l, c.col) {
			t.Errorf("%s: ParseLine = %d, %d, not bad at %d", c.name, l.Kind, l.Col, c.col)
		}
	}
}

// symbol is what can stand in a text that is read: one of bytes, or, if goal
// is not 0, the texts of a goal: a line, a comment, an expression or a type.
type symbol struct {
	goal  byte
	depth int
	bytes string
}

const (
	valueLetters = "abcdefghijklmnopqrstuvwxyz"
	fileLetters  = "ABCDEFGHIJKLMNOPQRSTUVWXYZ"
)

// symbolsOf reads a rule: n, F and d are letters of values, letters of files
// and digits, D a digit but 0, and Y any byte; E and T are expressions and
// types, and Z the rest of a comment. What stands in brackets is one of these
// bytes; other bytes are themselves.
func symbolsOf(rule string, depth int) []symbol {
	classes := map[byte]string{'n': valueLetters, 'F': fileLetters, 'd': "0123456789", 'D': "123456789", 'Y': allBytes()}
	var list []symbol
	for i := 0; i < len(rule); i++ {
		switch c := rule[i]; {
		case strings.IndexByte("ETZ", c) >= 0:
			list = append(list, symbol{goal: c, depth: depth})
		case classes[c] != "":
			list = append(list, symbol{bytes: classes[c]})
		case c == '[':
			end := i + strings.IndexByte(rule[i:], ']')
			list = append(list, symbol{bytes: rule[i+1 : end]})
			i = end
		default:
			list = append(list, symbol{bytes: string(c)})
		}
	}
	slices.Reverse(list)
	return list
}

// knownRules has what rulesOf returned before, since each byte of a line asks for it.
var knownRules = map[symbol][][]symbol{}

// rulesOf returns what a goal can be, in lists of which the last symbol comes first.
func rulesOf(goal symbol) [][]symbol {
	lists, ok := knownRules[goal]
	if ok {
		return lists
	}
	rules := map[byte][]string{
		'L': {"", "--Z", "[u][s][e] F", "n : T", "n = E"},
		'Z': {"", "YZ"},
		'E': {"d", "Dd", "n", "F.n", `\n.E`, "(E[ +,]E)", "{n=E;E}", "?<E,E,E>", "^E", "_E"},
		'T': {"I", "n", "(T[>*]T)"},
	}[goal.goal]
	limits := map[byte]int{'E': impl.MaxDepth, 'T': impl.MaxTypeDepth}
	depth := goal.depth
	if limit, ok := limits[goal.goal]; ok {
		if depth == limit {
			return nil
		}
		depth++
	}
	for _, rule := range rules {
		lists = append(lists, symbolsOf(rule, depth))
	}
	knownRules[goal] = lists
	return lists
}

// allBytes are the bytes of a line.
func allBytes() string {
	all := ""
	for c := ' '; c <= '~'; c++ {
		all += string(c)
	}
	return all
}

// after returns the stacks of what can follow c, where stack was to come.
func after(stack []symbol, c byte) [][]symbol {
	if len(stack) == 0 {
		return nil
	}
	top, rest := stack[len(stack)-1], stack[:len(stack)-1]
	if top.goal == 0 {
		if strings.IndexByte(top.bytes, c) < 0 {
			return nil
		}
		return [][]symbol{rest}
	}
	var stacks [][]symbol
	for _, rule := range rulesOf(top) {
		stacks = append(stacks, after(slices.Concat(rest, rule), c)...)
	}
	return stacks
}

// leastBytes returns how long a text is at least that stands for this stack.
func leastBytes(stack []symbol) int {
	n := 0
	for _, s := range stack {
		if s.goal != 'Z' && s.goal != 'L' {
			n++
		}
	}
	return n
}

// plainCol finds the first byte that does not fit as the document describes
// it, by keeping everything with which some line could go on. It returns true
// for a line that is not bad, if the numbers of nodes do not count.
func plainCol(text string) (int, bool) {
	stacks := [][]symbol{{{goal: 'L'}}}
	for i := range len(text) {
		var next [][]symbol
		for _, stack := range stacks {
			for _, s := range after(stack, text[i]) {
				if i+1+leastBytes(s) <= impl.MaxText {
					next = append(next, s)
				}
			}
		}
		if len(next) == 0 {
			return i, false
		}
		stacks = next
	}
	for _, stack := range stacks {
		if leastBytes(stack) == 0 {
			return 0, true
		}
	}
	return len(text), false
}

// plainNodes counts the nodes in the text of a line that is not bad.
func plainNodes(text string) int {
	n, isType := 0, strings.HasPrefix(text[1:], " : ")
	text = text[len("x = "):]
	for i, c := range []byte(text) {
		digit := '0' <= c && c <= '9'
		switch {
		case strings.IndexByte("(\\{?^_", c) >= 0, isType && c == 'I':
			n++
		case 'a' <= c && c <= 'z':
			if i == 0 || text[i-1] != '\\' && text[i-1] != '{' {
				n++
			}
		case digit && (i == 0 || text[i-1] < '0' || text[i-1] > '9'):
			n++
		}
	}
	return n
}

// checkLine compares ParseLine with plainCol.
func checkLine(t *testing.T, text string) {
	t.Helper()
	l := impl.ParseLine(text)
	col, ok := plainCol(text)
	if ok && len(text) > 4 && text[0] != '-' && text[1] == ' ' {
		limit := impl.MaxNodes
		if text[2] == ':' {
			limit = impl.MaxTypeNodes
		}
		if plainNodes(text) > limit {
			col, ok = len(text), false
		}
	}
	if !ok && !isBadAt(l, col) {
		t.Fatalf("ParseLine(%q) = %v, not bad at %d", text, l, col)
	}
	isBlank := l.Kind == impl.LineEmpty || l.Kind == impl.LineComment
	if ok && (l.Kind == impl.LineBad || l.Col != 0 || !isBlank && impl.FormatLine(l) != text || isBlank && text != "" && text[0] != '-') {
		t.Fatalf("ParseLine(%q) = %v", text, l)
	}
}

// TestAllShortLines checks promise 3 for all short lines, and for all short expressions and types of a few bytes.
func TestAllShortLines(t *testing.T) {
	for _, text := range textsUpTo("use :=A-xI", 5) {
		checkLine(t, text)
	}
	for _, text := range textsUpTo("01x A.\\(+,){=;}?<>^", 4) {
		checkLine(t, "x = "+text)
	}
	for _, text := range textsUpTo("Ia(>*)", 6) {
		checkLine(t, "x : "+text)
	}
	for _, text := range textsUpTo("x1(, )", 6) {
		checkLine(t, "u = "+text)
	}
}

// TestChangedLines checks promise 3 for beginnings of lines, and for lines in which a byte was changed.
func TestChangedLines(t *testing.T) {
	r := rand.New(rand.NewSource(5))
	for range 6000 {
		text := "s = " + rawExpr(randomExpr(r, 1+r.Intn(6)))
		if r.Intn(4) == 0 {
			text = "u : " + rawText(randomType(r, 1+r.Intn(6), 26))
		}
		if len(text) > 300 {
			continue
		}
		checkLine(t, text)
		at := r.Intn(len(text))
		other := string(rune(' ' + r.Intn('~'-' '+1)))
		if r.Intn(2) == 0 {
			other = string(text[r.Intn(len(text))])
		}
		checkLine(t, text[:at])
		checkLine(t, text[:at]+text[at+1:])
		checkLine(t, text[:at]+other+text[at:])
		checkLine(t, text[:at]+other+text[at+1:])
	}
}

// bigExpr is an expression of this depth whose nodes all have three operands.
func bigExpr(depth int, leaf string) string {
	if depth == 1 {
		return leaf
	}
	part := bigExpr(depth-1, leaf)
	return "?<" + part + "," + part + "," + part + ">"
}

// TestLongLines checks promise 3 near the greatest length of a text: a byte
// after which no line could end within it does not fit.
func TestLongLines(t *testing.T) {
	var texts []string
	for _, leaf := range []string{"1", "12", "A.x", "(x y)", "{x=1;\\y._A.z}"} {
		texts = append(texts, "x = "+bigExpr(9, leaf))
	}
	texts = append(texts, "x : "+rawText(full(12, number)), "x : "+rawText(full(12, variable(25))))
	for _, text := range texts {
		for n := impl.MaxText - 20; n <= impl.MaxText; n++ {
			checkLine(t, text[:n])
			checkLine(t, text[:n-1]+"0")
			checkLine(t, text[:n-1]+")")
		}
		if l := impl.ParseLine(text[:impl.MaxText]); l.Col >= impl.MaxText {
			t.Errorf("a text that cannot go on: ParseLine = %d, %d", l.Kind, l.Col)
		}
		if l := impl.ParseLine(text[:impl.MaxText+1]); !isBadAt(l, -1) {
			t.Errorf("a text that is too long: ParseLine = %d, %d", l.Kind, l.Col)
		}
	}
	// A line that has too many nodes, but ends within MaxText, and its last byte one byte earlier or later.
	part := bigExpr(6, "1")
	line := "x = (" + part + "," + part + ")"
	missing := impl.MaxText - len(line)
	for extra := missing - 2; extra <= missing; extra++ {
		text := strings.Replace(line, "1", "12", extra)
		if l := impl.ParseLine(text); !isBadAt(l, len(text)) {
			t.Errorf("a line of %d bytes: ParseLine = %d, %d", len(text), l.Kind, l.Col)
		}
		checkLine(t, text)
	}
	if l := impl.ParseLine(strings.Replace(line, "1", "12", missing+1)); !isBadAt(l, -1) {
		t.Errorf("a line that is too long: ParseLine = %d, %d", l.Kind, l.Col)
	}
	// It could not end if there were another digit, or a closing bracket were missing.
	text := strings.Replace(line, "1", "12", missing)
	if l := impl.ParseLine(text[:impl.MaxText-2] + "?)"); !isBadAt(l, impl.MaxText-2) {
		t.Errorf("a line with another byte near the end: ParseLine = %d, %d", l.Kind, l.Col)
	}
	last := strings.LastIndexByte(text, '1')
	if l := impl.ParseLine(text[:last+1] + "2" + text[last+1:impl.MaxText-1]); !isBadAt(l, last+1) {
		t.Errorf("a line with a digit too many: ParseLine = %d, %d", l.Kind, l.Col)
	}
}

// badLines are lines that ParseLine returns for no text, or for one that it does not keep.
func badLines(t *testing.T) []impl.Line {
	one := numExpr(1)
	use := impl.Line{Kind: impl.LineUse, Name: "A"}
	sig := impl.Line{Kind: impl.LineSig, Name: "x", Type: number}
	def := impl.Line{Kind: impl.LineDef, Name: "x", Expr: one}
	list := []impl.Line{{}, {Kind: impl.LineComment}, {Kind: impl.LineBad}, {Kind: impl.LineBad, Col: 3}, {Kind: impl.LineBad, Col: -1}, {Name: "A"}, {Type: number}, {Expr: one}, {Kind: impl.LineUse}, {Kind: impl.LineSig, Name: "x"}, {Kind: impl.LineDef, Name: "x"}}
	for _, kind := range []int{-1, 0, 1, 5, 6, math.MinInt, math.MaxInt} {
		for _, l := range []impl.Line{use, sig, def} {
			l.Kind = kind
			list = append(list, l)
		}
	}
	for _, l := range []impl.Line{use, sig, def} {
		for _, col := range []int{-1, 1, len("x = 1"), math.MinInt, math.MaxInt} {
			l.Col = col
			list = append(list, l)
		}
	}
	for _, l := range []impl.Line{sig, def} {
		for _, name := range append(badValueNames(), "x = 1\ny", "x : I\ny", "--", "use A") {
			l.Name = name
			list = append(list, l)
		}
	}
	for _, name := range []string{"", "a", "AB", "A ", "1", "@", "[", "A\n"} {
		list = append(list, impl.Line{Kind: impl.LineUse, Name: name})
	}
	list = append(list,
		impl.Line{Kind: impl.LineUse, Name: "A", Type: number},
		impl.Line{Kind: impl.LineUse, Name: "A", Expr: one},
		impl.Line{Kind: impl.LineUse, Name: "A", Type: impl.Type{Kids: []impl.Type{number}}},
		impl.Line{Kind: impl.LineSig, Name: "x", Type: number, Expr: one},
		impl.Line{Kind: impl.LineSig, Name: "x", Expr: one},
		impl.Line{Kind: impl.LineDef, Name: "x", Type: number, Expr: one},
		impl.Line{Kind: impl.LineDef, Name: "x", Type: loop(2), Expr: one},
		impl.Line{Kind: impl.LineSig, Name: "x", Type: number, Expr: loopExpr(2)},
		impl.Line{Kind: impl.LineDef, Name: "x", Type: number})
	for _, bad := range badTypes() {
		list = append(list, impl.Line{Kind: impl.LineSig, Name: "x", Type: bad})
	}
	return list
}

func TestFormatLineRefuses(t *testing.T) {
	for i, l := range badLines(t) {
		if s := impl.FormatLine(l); s != "" {
			t.Errorf("bad line %d: FormatLine = %q", i, s)
		}
	}
	// Nil and empty slices are equivalent.
	l := impl.Line{Kind: impl.LineDef, Name: "x", Type: impl.Type{Kids: []impl.Type{}}, Expr: impl.Expr{Kind: impl.ExprNum, N: 1, Kids: []impl.Expr{}}}
	if s := impl.FormatLine(l); s != "x = 1" {
		t.Errorf("FormatLine with empty slices = %q", s)
	}
}

func TestLineSame(t *testing.T) {
	base := impl.Line{Kind: -3, Name: "any name", Type: pair(number, variable(77)), Expr: exprOf(50, "f", numExpr(-1)), Col: -9}
	changes := []func(l *impl.Line){
		func(l *impl.Line) { l.Kind = impl.LineDef },
		func(l *impl.Line) { l.Name = "" },
		func(l *impl.Line) { l.Type.Kind = impl.TypeFun },
		func(l *impl.Line) { l.Type = pair(number, variable(78)) },
		func(l *impl.Line) { l.Expr.Kind = 51 },
		func(l *impl.Line) { l.Expr = exprOf(50, "f", numExpr(-2)) },
		func(l *impl.Line) { l.Col = 9 },
	}
	for i, change := range changes {
		other := impl.Line{Kind: -3, Name: "any name", Type: pair(number, variable(77)), Expr: exprOf(50, "f", numExpr(-1)), Col: -9}
		if !impl.LineSame(base, other) {
			t.Fatal("equal lines are not the same")
		}
		change(&other)
		if impl.LineSame(base, other) || impl.LineSame(other, base) {
			t.Errorf("LineSame does not see change %d", i)
		}
	}
	a := impl.Line{Type: loop(2), Expr: loopExpr(2)}
	if !impl.LineSame(a, impl.Line{Type: loop(3), Expr: loopExpr(5)}) || impl.LineSame(a, impl.Line{Type: loop(3), Expr: deepExpr(4)}) {
		t.Error("LineSame is wrong for lines with parts that have no end")
	}
	texts := []string{"", "--", "use A", "use B", "x : I", "y : I", "x : a", "x = 1", "y = 1", "x = x", "x", "X"}
	for i, s := range texts {
		for j, r := range texts {
			if impl.LineSame(impl.ParseLine(s), impl.ParseLine(r)) != (i == j) {
				t.Errorf("LineSame of %q and %q = %v", s, r, i != j)
			}
		}
	}
	if !impl.LineSame(impl.ParseLine("-- a"), impl.ParseLine("-- b")) {
		t.Error("comments are told apart")
	}
}

// addExprMemory counts, for each element of Kids that e can reach, how often it is reached, unused capacity included.
func addExprMemory(count map[*impl.Expr]int, e impl.Expr) {
	kids := e.Kids[:cap(e.Kids)]
	for i := range kids {
		count[&kids[i]]++
		addExprMemory(count, kids[i])
	}
}

// TestLinesAreNew checks that results share no memory with other results or within themselves.
func TestLinesAreNew(t *testing.T) {
	exprs, types := map[*impl.Expr]int{}, map[*impl.Type]int{}
	for range 2 {
		e, ok := impl.ParseExpr("{x=?<1,1,1>;(?<1,1,1> (x+x))}")
		l := impl.ParseLine("x = {x=?<1,1,1>;(?<1,1,1> (x+x))}")
		s := impl.ParseLine("x : ((a>b)*(a>b))")
		if !ok || l.Kind != impl.LineDef || s.Kind != impl.LineSig {
			t.Fatalf("results are missing: %v, %v, %v", e, l, s)
		}
		addExprMemory(exprs, e)
		addExprMemory(exprs, l.Expr)
		addMemory(types, s.Type)
	}
	for at, n := range exprs {
		if n != 1 {
			t.Errorf("%v is reached %d times", *at, n)
		}
	}
	for at, n := range types {
		if n != 1 {
			t.Errorf("%v is reached %d times", *at, n)
		}
	}
}

// TestExprsAreKept checks that no function changes its arguments.
func TestExprsAreKept(t *testing.T) {
	e, _ := impl.ParseExpr("{x=?<1,A.y,z>;\\y.((x y),(x+w))}")
	before := copyExpr(e)
	l := impl.Line{Kind: impl.LineDef, Name: "x", Expr: e}
	impl.ExprValid(e)
	impl.ExprSame(e, before)
	impl.FormatExpr(e)
	impl.FreeNames(e)
	impl.FormatLine(l)
	impl.LineSame(l, l)
	if !equalExprs(e, before) {
		t.Errorf("the argument became %s", rawExpr(e))
	}
}
