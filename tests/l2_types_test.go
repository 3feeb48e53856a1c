package tests

import (
	"math"
	"math/rand"
	"slices"
	"strings"
	"testing"

	"loop.example/livetyper/impl"
)

var number = impl.Type{Kind: impl.TypeNum}

func variable(n int) impl.Type {
	return impl.Type{Kind: impl.TypeVar, N: n}
}

func fun(a, b impl.Type) impl.Type {
	return impl.Type{Kind: impl.TypeFun, Kids: []impl.Type{a, b}}
}

func pair(a, b impl.Type) impl.Type {
	return impl.Type{Kind: impl.TypePair, Kids: []impl.Type{a, b}}
}

// chain is a type of this depth, with one node less than twice as many nodes.
func chain(depth int) impl.Type {
	t := number
	for i := 1; i < depth; i++ {
		if i%2 == 0 {
			t = fun(t, number)
		} else {
			t = pair(number, t)
		}
	}
	return t
}

// full is a type of this depth in which all leaves are at the bottom.
func full(depth int, leaf impl.Type) impl.Type {
	if depth == 1 {
		return leaf
	}
	return pair(full(depth-1, leaf), full(depth-1, leaf))
}

// rawText writes any type as its text, without limits.
func rawText(t impl.Type) string {
	switch t.Kind {
	case impl.TypeNum:
		return "I"
	case impl.TypeVar:
		return "abcdefghijklmnopqrstuvwxyz"[t.N : t.N+1]
	}
	return "(" + rawText(t.Kids[0]) + ".>*"[t.Kind-1:t.Kind] + rawText(t.Kids[1]) + ")"
}

func typeOf(t *testing.T, text string) impl.Type {
	t.Helper()
	x, ok := impl.ParseType(text)
	if !ok {
		t.Fatalf("ParseType refuses %q", text)
	}
	return x
}

func typesOf(t *testing.T, texts []string) []impl.Type {
	t.Helper()
	var list []impl.Type
	for _, text := range texts {
		list = append(list, typeOf(t, text))
	}
	return list
}

// typeTexts returns the texts of all types of at most this many nodes, an odd number, with these leaves.
func typeTexts(nodes int, leaves ...string) []string {
	bySize := map[int][]string{1: leaves}
	all := slices.Clone(leaves)
	for size := 3; size <= nodes; size += 2 {
		for left := 1; left < size-1; left += 2 {
			for _, a := range bySize[left] {
				for _, b := range bySize[size-1-left] {
					bySize[size] = append(bySize[size], "("+a+">"+b+")", "("+a+"*"+b+")")
				}
			}
		}
		all = append(all, bySize[size]...)
	}
	return all
}

// badNodes are types whose root is not valid.
func badNodes() []impl.Type {
	one, two := []impl.Type{number}, []impl.Type{number, number}
	three := []impl.Type{number, number, number}
	list := []impl.Type{{}, {Kids: two}}
	for _, kind := range []int{-1, 5, 6, math.MinInt, math.MaxInt} {
		list = append(list, impl.Type{Kind: kind}, impl.Type{Kind: kind, Kids: two})
	}
	for _, n := range []int{-1, 1, math.MinInt, math.MaxInt} {
		list = append(list, impl.Type{Kind: impl.TypeNum, N: n}, impl.Type{Kind: impl.TypeFun, N: n, Kids: two}, impl.Type{Kind: impl.TypePair, N: n, Kids: two})
	}
	for _, n := range []int{-1, impl.MaxVar + 1, math.MinInt, math.MaxInt} {
		list = append(list, variable(n))
	}
	for _, kids := range [][]impl.Type{nil, {}, one, three} {
		list = append(list, impl.Type{Kind: impl.TypeFun, Kids: kids}, impl.Type{Kind: impl.TypePair, Kids: kids})
	}
	for _, kids := range [][]impl.Type{one, two, three} {
		list = append(list, impl.Type{Kind: impl.TypeNum, Kids: kids}, impl.Type{Kind: impl.TypeVar, Kids: kids})
	}
	return list
}

// loop is a type that contains itself, after as many functions as links.
func loop(links int) impl.Type {
	first := fun(number, number)
	t := first
	for range links - 1 {
		t = fun(t, number)
	}
	first.Kids[0] = t
	return t
}

// badTypes are types that are not valid, at the root or further below.
func badTypes() []impl.Type {
	list := badNodes()
	for _, bad := range badNodes() {
		list = append(list, fun(bad, number), pair(number, bad), pair(variable(0), fun(number, pair(number, bad))))
	}
	deep := chain(impl.MaxTypeDepth + 1)
	deeper := chain(1000000)
	tooMany := pair(full(6, number), number)
	shared := number
	for range 60 {
		shared = pair(shared, shared)
	}
	wide := impl.Type{Kind: impl.TypePair, Kids: make([]impl.Type, 100000)}
	return append(list, deep, deeper, tooMany, full(7, variable(3)), full(impl.MaxTypeDepth, number), shared, wide, loop(1), loop(2), loop(40))
}

// goodTypes are valid types, at the limits too.
func goodTypes(t *testing.T) []impl.Type {
	list := typesOf(t, typeTexts(5, "I", "a", "z"))
	for n := range impl.MaxVar + 1 {
		list = append(list, variable(n))
	}
	return append(list, chain(impl.MaxTypeDepth), full(6, number), full(6, variable(7)), impl.Type{Kind: impl.TypeNum, Kids: []impl.Type{}})
}

func TestTypeValid(t *testing.T) {
	for _, x := range goodTypes(t) {
		if !impl.TypeValid(x) {
			t.Errorf("TypeValid(%s) = false", rawText(x))
		}
	}
	for i, x := range badTypes() {
		if impl.TypeValid(x) {
			t.Errorf("bad type %d is valid", i)
		}
	}
	// 65 nodes: there is no type with 64.
	if impl.TypeValid(pair(full(5, number), pair(full(5, number), number))) {
		t.Error("a type of 65 nodes is valid")
	}
}

// TestBadTypes checks that every function refuses what is not a valid type.
func TestBadTypes(t *testing.T) {
	zero := func(x impl.Type) bool { return x.Kind == 0 && x.N == 0 && len(x.Kids) == 0 }
	for i, bad := range badTypes() {
		if s := impl.FormatType(bad); s != "" {
			t.Errorf("bad type %d: FormatType = %q", i, s)
		}
		if v := impl.TypeVars(bad); len(v) != 0 {
			t.Errorf("bad type %d: TypeVars = %v", i, v)
		}
		if x, ok := impl.CanonType(bad); ok || !zero(x) {
			t.Errorf("bad type %d: CanonType = %v", i, ok)
		}
		if x, ok := impl.SubstVars(bad, []impl.Type{number}); ok || !zero(x) {
			t.Errorf("bad type %d: SubstVars = %v", i, ok)
		}
		if x, ok := impl.UnifyTypes(bad, variable(0)); ok || !zero(x) {
			t.Errorf("bad type %d: UnifyTypes with a variable = %v", i, ok)
		}
		if x, ok := impl.UnifyTypes(variable(0), bad); ok || !zero(x) {
			t.Errorf("bad type %d: UnifyTypes of a variable = %v", i, ok)
		}
		if x, ok := impl.UnifyTypes(bad, bad); ok || !zero(x) {
			t.Errorf("bad type %d: UnifyTypes with itself = %v", i, ok)
		}
		if impl.InstanceOf(bad, variable(0)) || impl.InstanceOf(number, bad) || impl.InstanceOf(bad, bad) {
			t.Errorf("bad type %d: InstanceOf = true", i)
		}
		// The list counts also where no variable has the index of the element.
		for _, list := range [][]impl.Type{{bad}, {number, bad}, {bad, number}, append(make([]impl.Type, 0, 40), append(slices.Repeat([]impl.Type{number}, 30), bad)...)} {
			if x, ok := impl.SubstVars(fun(variable(1), number), list); ok || !zero(x) {
				t.Errorf("bad type %d: SubstVars with it in a list of %d = %v", i, len(list), ok)
			}
		}
	}
}

func TestTypeSame(t *testing.T) {
	texts := typeTexts(5, "I", "a", "b")
	types := typesOf(t, texts)
	for i, x := range types {
		for j, y := range typesOf(t, texts[:60]) {
			if impl.TypeSame(x, y) != (i == j) || impl.TypeSame(y, x) != (i == j) {
				t.Errorf("TypeSame(%s, %s) = %v", texts[i], texts[j], i != j)
			}
		}
	}
	if !impl.TypeSame(number, impl.Type{Kind: impl.TypeNum, Kids: []impl.Type{}}) {
		t.Error("TypeSame tells nil and empty Kids apart")
	}
}

func TestTypeSameOfBadTypes(t *testing.T) {
	list := badNodes()
	for i, x := range list {
		for j, y := range badNodes() {
			// The nodes without Kids are in the list twice, as nil and as an empty slice.
			equal := i == j || x.Kind == y.Kind && x.N == y.N && len(x.Kids)+len(y.Kids) == 0
			if impl.TypeSame(x, y) != equal || impl.TypeSame(pair(number, x), pair(number, y)) != equal {
				t.Errorf("TypeSame(%v, %v) = %v", x, y, !equal)
			}
		}
	}
	below := impl.Type{Kind: impl.TypeNum, Kids: []impl.Type{{Kind: 9, N: 1}}}
	other := impl.Type{Kind: impl.TypeNum, Kids: []impl.Type{{Kind: 9, N: 2}}}
	if impl.TypeSame(below, other) || !impl.TypeSame(chain(300000), chain(300000)) || impl.TypeSame(chain(300000), chain(300001)) {
		t.Error("TypeSame does not look at every level")
	}
	// Kids that begin with the same memory, but are not equally long.
	parts := func(second impl.Type, shortFirst bool) impl.Type {
		kids := []impl.Type{number, second}
		long, short := impl.Type{Kind: 9, Kids: kids}, impl.Type{Kind: 9, Kids: kids[:1]}
		if shortFirst {
			return pair(short, long)
		}
		return pair(long, short)
	}
	for _, shortFirst := range []bool{false, true} {
		x, y := parts(variable(0), shortFirst), parts(variable(1), shortFirst)
		if impl.TypeSame(x, y) || !impl.TypeSame(x, parts(variable(0), shortFirst)) || impl.TypeSame(x.Kids[0], x.Kids[1]) {
			t.Error("TypeSame takes a part of Kids for all of them")
		}
	}
}

func TestTypeSameOfLoops(t *testing.T) {
	a, b := loop(2), loop(3)
	if !impl.TypeSame(a, a) || !impl.TypeSame(a, b) || !impl.TypeSame(b, fun(b, number)) {
		t.Error("types without an end, equal at every level, are not the same")
	}
	b.Kids[0].Kids[1] = variable(0)
	if impl.TypeSame(a, b) || impl.TypeSame(b, a) || impl.TypeSame(b, fun(b, number)) || impl.TypeSame(a, chain(9)) {
		t.Error("types without an end that differ are the same")
	}
	x, y, z := number, number, variable(0)
	for range 60 {
		x, y, z = pair(x, x), pair(y, y), pair(z, z)
	}
	if !impl.TypeSame(x, y) || impl.TypeSame(x, z) {
		t.Error("TypeSame is wrong for types whose parts are shared")
	}
}

func TestTypeTexts(t *testing.T) {
	cases := []struct {
		t    impl.Type
		text string
	}{
		{number, "I"},
		{variable(0), "a"},
		{variable(25), "z"},
		{fun(number, variable(1)), "(I>b)"},
		{pair(number, variable(1)), "(I*b)"},
		{fun(pair(variable(2), number), fun(number, variable(2))), "((c*I)>(I>c))"},
	}
	for _, c := range cases {
		if s := impl.FormatType(c.t); s != c.text {
			t.Errorf("FormatType = %q, not %q", s, c.text)
		}
		if x, ok := impl.ParseType(c.text); !ok || !impl.TypeSame(x, c.t) {
			t.Errorf("ParseType(%q) = %v, %v", c.text, x, ok)
		}
	}
	for _, x := range goodTypes(t) {
		s := impl.FormatType(x)
		if s != rawText(x) {
			t.Errorf("FormatType = %q, not %q", s, rawText(x))
		}
		if y, ok := impl.ParseType(s); !ok || !impl.TypeSame(x, y) {
			t.Errorf("ParseType(%q) = %v, %v", s, y, ok)
		}
	}
}

func TestParseTypeRefuses(t *testing.T) {
	bad := []string{"", " ", "A", "J", "i I", " I", "I ", "I\n", "(", ")", "()", "(I)", "(I>I", "I>I)", "I>I", "(I>)", "(>I)", "(I I)", "(I+I)", "(I,I)", "(I<I)", "(I>I>I)", "(I*I*I)", "((I>I))", "(I>I)I", "(I>I))", "(I > I)", "(I\x00I)", "\x00", "`", "{", "_", "é", "\xff", "a0", "1",
		rawText(chain(impl.MaxTypeDepth + 1)),
		rawText(pair(full(6, number), number)),
		rawText(pair(full(5, number), pair(full(5, number), number))),
		rawText(full(impl.MaxTypeDepth, number)),
		strings.Repeat("(", 3000000), strings.Repeat("a", 3000000), strings.Repeat("(I>", 3000000)}
	for _, s := range bad {
		if x, ok := impl.ParseType(s); ok || x.Kind != 0 || x.N != 0 || len(x.Kids) != 0 {
			t.Errorf("ParseType(%.40q) = %v, %v", s, x, ok)
		}
	}
}

// TestParseTypeOfAllTexts compares ParseType of all short texts with the texts of types.
func TestParseTypeOfAllTexts(t *testing.T) {
	isType := map[string]bool{}
	for _, s := range typeTexts(5, "I", "a") {
		isType[s] = true
	}
	for _, s := range textsUpTo("Ia(>*)", 6) {
		if x, ok := impl.ParseType(s); ok != isType[s] || ok && impl.FormatType(x) != s {
			t.Errorf("ParseType(%q) = %v, %v", s, x, ok)
		}
	}
}

func TestTypeVars(t *testing.T) {
	cases := []struct {
		text string
		want []int
	}{
		{"I", nil},
		{"(I>(I*I))", nil},
		{"a", []int{0}},
		{"z", []int{25}},
		{"(c>(a*c))", []int{2, 0}},
		{"((b>b)>(a>(b*a)))", []int{1, 0}},
		{"((d*c)>(b>(a*I)))", []int{3, 2, 1, 0}},
		{"(a>((c*b)>a))", []int{0, 2, 1}},
	}
	for _, c := range cases {
		if v := impl.TypeVars(typeOf(t, c.text)); !slices.Equal(v, c.want) {
			t.Errorf("TypeVars(%s) = %v", c.text, v)
		}
	}
	all := allVars()
	v := impl.TypeVars(all)
	if len(v) != impl.MaxVar+1 || v[0] != 25 || v[25] != 0 {
		t.Errorf("TypeVars of all variables = %v", v)
	}
	v[0] = 99
	if w := impl.TypeVars(all); w[0] != 25 {
		t.Errorf("TypeVars after a change of its result = %v", w)
	}
}

// allVars is a type with all variables, the last one first.
func allVars() impl.Type {
	half := func(first int) impl.Type {
		t := variable(first)
		for n := first + 1; n < first+13; n++ {
			t = fun(variable(n), t)
		}
		return t
	}
	return pair(half(13), half(0))
}

func TestSubstVars(t *testing.T) {
	cases := []struct {
		text string
		list []string
		want string
	}{
		{"I", nil, "I"},
		{"(a>b)", nil, "(a>b)"},
		{"I", []string{"a"}, "I"},
		// All at once: what is put in is not replaced again.
		{"(a>b)", []string{"b", "a"}, "(b>a)"},
		{"(a>b)", []string{"b", "I"}, "(b>I)"},
		{"(a>(b*c))", []string{"(a*b)"}, "((a*b)>(b*c))"},
		{"(a>(b*c))", []string{"I", "I", "(a>I)"}, "(I>(I*(a>I)))"},
		{"(a*a)", []string{"(a>a)"}, "((a>a)*(a>a))"},
		{"(c*d)", []string{"I", "I", "z", "y"}, "(z*y)"},
		{"z", []string{"I"}, "z"},
	}
	for _, c := range cases {
		x, ok := impl.SubstVars(typeOf(t, c.text), typesOf(t, c.list))
		if !ok || impl.FormatType(x) != c.want {
			t.Errorf("SubstVars(%s, %v) = %s, %v", c.text, c.list, impl.FormatType(x), ok)
		}
	}
	// Elements that no variable can have as its number do no harm.
	if x, ok := impl.SubstVars(variable(25), slices.Repeat([]impl.Type{number}, 1000)); !ok || x.Kind != impl.TypeNum {
		t.Errorf("SubstVars with a long list = %v, %v", x, ok)
	}
}

// TestSubstVarsOfAllTypes compares SubstVars with replacing letters in texts.
func TestSubstVarsOfAllTypes(t *testing.T) {
	texts := typeTexts(5, "I", "a", "b")
	for _, s := range texts {
		for _, a := range texts[:21] {
			for _, b := range texts[:21] {
				want := strings.NewReplacer("a", a, "b", b).Replace(s)
				x, ok := impl.SubstVars(typeOf(t, s), []impl.Type{typeOf(t, a), typeOf(t, b)})
				if !ok || impl.FormatType(x) != want {
					t.Errorf("SubstVars(%s, %s, %s) = %s, %v", s, a, b, impl.FormatType(x), ok)
				}
			}
		}
	}
}

func TestSubstVarsLimits(t *testing.T) {
	cases := []struct {
		t, put impl.Type
		want   bool
	}{
		{fun(number, variable(0)), chain(15), true},
		{fun(number, variable(0)), chain(16), false},
		{fun(fun(variable(0), number), number), chain(14), true},
		{fun(fun(variable(0), number), number), chain(15), false},
		{pair(variable(0), variable(0)), full(5, number), true},
		{pair(variable(0), variable(0)), pair(full(5, number), number), false},
		{pair(variable(0), pair(variable(0), number)), full(5, number), false},
		{full(6, variable(0)), variable(25), true},
		{full(6, variable(0)), full(6, number), false},
		{chain(16), chain(16), true},
	}
	for i, c := range cases {
		x, ok := impl.SubstVars(c.t, []impl.Type{c.put})
		if ok != c.want || ok != (x.Kind != 0) || !ok && len(x.Kids) != 0 {
			t.Errorf("case %d: SubstVars = %v, %v", i, x, ok)
		}
	}
}

func TestCanonType(t *testing.T) {
	cases := [][2]string{{"I", "I"}, {"z", "a"}, {"(c>(a*c))", "(a>(b*a))"}, {"(b>a)", "(a>b)"}, {"((d*c)>(b>(a*d)))", "((a*b)>(c>(d*a)))"}, {"(a>(I*b))", "(a>(I*b))"}}
	for _, c := range cases {
		if x, ok := impl.CanonType(typeOf(t, c[0])); !ok || impl.FormatType(x) != c[1] {
			t.Errorf("CanonType(%s) = %s, %v", c[0], impl.FormatType(x), ok)
		}
	}
	x, ok := impl.CanonType(allVars())
	if v := impl.TypeVars(x); !ok || len(v) != 26 || v[0] != 0 || v[25] != 25 {
		t.Errorf("CanonType of all variables = %s, %v", impl.FormatType(x), ok)
	}
}

// TestCanonTypeOfAllTypes checks that types with the same result differ in the names of variables only.
func TestCanonTypeOfAllTypes(t *testing.T) {
	types := typesOf(t, typeTexts(5, "I", "a", "b", "e"))
	byCanon := map[string]impl.Type{}
	for _, x := range types {
		c, ok := impl.CanonType(x)
		again, fine := impl.CanonType(c)
		if !ok || !fine || !impl.TypeSame(c, again) || !impl.InstanceOf(c, x) || !impl.InstanceOf(x, c) {
			t.Fatalf("CanonType(%s) = %s, %v", rawText(x), impl.FormatType(c), ok)
		}
		for i, n := range impl.TypeVars(c) {
			if n != i {
				t.Fatalf("CanonType(%s) = %s", rawText(x), impl.FormatType(c))
			}
		}
		byCanon[rawText(c)] = c
	}
	for s, x := range byCanon {
		for r, y := range byCanon {
			if s != r && impl.InstanceOf(x, y) && impl.InstanceOf(y, x) {
				t.Errorf("%s and %s differ in names only", s, r)
			}
		}
	}
}

func TestUnifyTypes(t *testing.T) {
	cases := [][3]string{
		{"(a>(b*I))", "((I>c)>(a*d))", "((I>a)>((I>a)*I))"},
		{"I", "I", "I"},
		{"z", "I", "I"},
		{"c", "c", "a"},
		{"c", "d", "a"},
		{"z", "(y*x)", "(a*b)"},
		{"(c>c)", "(c>c)", "(a>a)"},
		{"(a>b)", "(b>a)", "(a>a)"},
		{"(a>b)", "(c>d)", "(a>b)"},
		{"(a>a)", "(I>b)", "(I>I)"},
		{"(a*(b*c))", "(b*(c*I))", "(I*(I*I))"},
		{"(a*(b*c))", "((b*b)*((c*c)*d))", "(((a*a)*(a*a))*((a*a)*a))"},
		{"((a>b)*(b>a))", "(c*c)", "((a>a)*(a>a))"},
		// No replacements.
		{"I", "(a>b)", ""},
		{"(a*b)", "I", ""},
		{"(a>b)", "(a*b)", ""},
		{"(a*a)", "(I*(b*b))", ""},
		{"((a>b)*(a*b))", "(c*c)", ""},
		{"(a*(b*a))", "(I*(I*(I>I)))", ""},
		// A variable that would contain itself.
		{"a", "(a>I)", ""},
		{"(I*a)", "a", ""},
		{"a", "((I>a)*I)", ""},
		{"(a*a)", "(b*(b>c))", ""},
		{"(a*b)", "((b>I)*(a>I))", ""},
		{"(a*(b*c))", "((b*b)*((c*c)*(a*a)))", ""},
		{"((a*I)*(I*a))", "(b*b)", "((I*I)*(I*I))"},
		{"((a*b)*a)", "((b*c)*(c>I))", ""},
		{"(a*(a*b))", "(b*((b>I)*I))", ""},
		{"(a*(a*a))", "((a>I)*((a>I)*I))", ""},
	}
	for _, c := range cases {
		for _, flip := range []bool{false, true} {
			a, b := typeOf(t, c[0]), typeOf(t, c[1])
			if flip {
				a, b = b, a
			}
			x, ok := impl.UnifyTypes(a, b)
			if ok != (c[2] != "") || impl.FormatType(x) != c[2] || !ok && x.Kind != 0 {
				t.Errorf("UnifyTypes(%s, %s) = %s, %v", rawText(a), rawText(b), impl.FormatType(x), ok)
			}
		}
	}
}

func TestUnifyTypesLimits(t *testing.T) {
	a, b := variable(0), variable(1)
	cases := []struct {
		name string
		x, y impl.Type
		want bool
	}{
		{"16 deep", pair(a, b), pair(chain(14), fun(number, a)), true},
		{"17 deep", pair(a, b), pair(chain(15), fun(number, a)), false},
		{"63 nodes", pair(a, a), pair(full(5, number), b), true},
		{"67 nodes", pair(a, a), pair(pair(full(5, number), number), b), false},
		{"65 nodes", pair(a, pair(a, number)), pair(full(5, number), b), false},
		{"the deepest one with itself", chain(16), chain(16), true},
		{"the largest one with a variable", full(6, a), b, true},
		{"the largest one with a number", full(6, a), number, false},
		{"both at the limit", full(6, a), full(6, number), true},
	}
	for _, c := range cases {
		x, ok := impl.UnifyTypes(c.x, c.y)
		y, fine := impl.UnifyTypes(c.y, c.x)
		if ok != c.want || fine != c.want || !impl.TypeSame(x, y) || ok != (x.Kind != 0) {
			t.Errorf("%s: UnifyTypes = %v, %v", c.name, x, ok)
		}
	}
}

// TestUnifyTypesDoubling unifies types whose common type has thousands of nodes, or no end.
func TestUnifyTypesDoubling(t *testing.T) {
	for n := 1; n <= 13; n++ {
		x, y := variable(0), variable(0)
		end := variable(n)
		for i := 1; i <= n; i++ {
			x = pair(x, variable(i))
			y = pair(y, pair(variable(i-1), variable(i-1)))
		}
		common, ok := impl.UnifyTypes(x, y)
		if want := n <= 4; ok != want || ok && len(impl.TypeVars(common)) != 1 {
			t.Errorf("%d doublings: UnifyTypes = %v", n, ok)
		}
		if _, ok := impl.UnifyTypes(pair(x, variable(0)), pair(y, end)); ok {
			t.Errorf("%d doublings of a variable that contains itself: UnifyTypes = true", n)
		}
	}
}

// TestUnifiedTypesAreMostGeneral checks promise 2 for all small types: a type
// that both can become with one way of replacing is an instance of the result.
func TestUnifiedTypesAreMostGeneral(t *testing.T) {
	candidates := typesOf(t, typeTexts(5, "I", "a", "b"))
	for _, a := range candidates {
		for _, b := range candidates[:21] {
			x, ok := impl.UnifyTypes(a, b)
			both := pair(a, b)
			if ok && (!impl.InstanceOf(pair(x, x), both) || !impl.InstanceOf(x, a) || !impl.InstanceOf(x, b)) {
				t.Errorf("UnifyTypes(%s, %s) = %s, which is no instance of both", rawText(a), rawText(b), rawText(x))
			}
			if c, _ := impl.CanonType(x); ok && !impl.TypeSame(c, x) {
				t.Errorf("UnifyTypes(%s, %s) = %s, not canonical", rawText(a), rawText(b), rawText(x))
			}
			for _, c := range candidates {
				if impl.InstanceOf(pair(c, c), both) && (!ok || !impl.InstanceOf(c, x)) {
					t.Errorf("UnifyTypes(%s, %s) = %s, %v, but both can become %s", rawText(a), rawText(b), impl.FormatType(x), ok, rawText(c))
				}
			}
		}
	}
}

// replacing is a list of replacements for the slow, plain unification that
// UnifyTypes is compared with; what is put in may have variables of the list.
type replacing map[int]impl.Type

// done returns t with all replacements, and false if it has more than 2000 nodes.
func (r replacing) done(t impl.Type, nodes *int) (impl.Type, bool) {
	if *nodes++; *nodes > 2000 {
		return impl.Type{}, false
	}
	if to, ok := r[t.N]; ok && t.Kind == impl.TypeVar {
		*nodes--
		return r.done(to, nodes)
	}
	if len(t.Kids) == 0 {
		return t, true
	}
	left, ok := r.done(t.Kids[0], nodes)
	right, fine := r.done(t.Kids[1], nodes)
	return impl.Type{Kind: t.Kind, Kids: []impl.Type{left, right}}, ok && fine
}

func (r replacing) contains(t impl.Type, n int) bool {
	if to, ok := r[t.N]; ok && t.Kind == impl.TypeVar {
		return r.contains(to, n)
	}
	return t.Kind == impl.TypeVar && t.N == n || slices.ContainsFunc(t.Kids, func(kid impl.Type) bool { return r.contains(kid, n) })
}

func (r replacing) unify(a, b impl.Type) bool {
	for a.Kind == impl.TypeVar && r[a.N].Kind != 0 {
		a = r[a.N]
	}
	for b.Kind == impl.TypeVar && r[b.N].Kind != 0 {
		b = r[b.N]
	}
	switch {
	case a.Kind == impl.TypeVar && b.Kind == impl.TypeVar && a.N == b.N:
		return true
	case a.Kind == impl.TypeVar:
		if r.contains(b, a.N) {
			return false
		}
		r[a.N] = b
		return true
	case b.Kind == impl.TypeVar:
		return r.unify(b, a)
	}
	return a.Kind == b.Kind && (len(a.Kids) == 0 || r.unify(a.Kids[0], b.Kids[0]) && r.unify(a.Kids[1], b.Kids[1]))
}

// randomType is a type of at most this depth with variables up to vars.
func randomType(r *rand.Rand, depth, vars int) impl.Type {
	switch n := r.Intn(10); {
	case depth == 1 || n < 3:
		if r.Intn(5) == 0 {
			return number
		}
		return variable(r.Intn(vars))
	case n < 5:
		return fun(randomType(r, depth-1, vars), randomType(r, depth-1, vars))
	}
	return pair(randomType(r, depth-1, vars), randomType(r, depth-1, vars))
}

func TestUnifyTypesOfRandomTypes(t *testing.T) {
	r := rand.New(rand.NewSource(2))
	found := 0
	for range 40000 {
		vars := 1 + r.Intn(12)
		a, b := randomType(r, 5, vars), randomType(r, 5, vars)
		plain, want, nodes := replacing{}, "", 0
		if plain.unify(a, b) {
			common, small := plain.done(a, &nodes)
			canon, ok := impl.CanonType(common)
			if small && ok {
				want = rawText(canon)
				found++
			}
		}
		x, ok := impl.UnifyTypes(a, b)
		if ok != (want != "") || impl.FormatType(x) != want {
			t.Fatalf("UnifyTypes(%s, %s) = %s, %v, not %s", rawText(a), rawText(b), impl.FormatType(x), ok, want)
		}
	}
	if found < 4000 {
		t.Errorf("only %d of the random types can be unified", found)
	}
}

func TestInstanceOf(t *testing.T) {
	cases := []struct {
		special, general string
		want             bool
	}{
		{"I", "I", true},
		{"I", "a", true},
		{"a", "I", false},
		{"z", "a", true},
		{"(I>(I*a))", "(a>(a*b))", true},
		{"(I>a)", "(a>a)", false},
		{"(a>I)", "(a>a)", false},
		{"(a>b)", "(a>a)", false},
		{"(a>a)", "(a>b)", true},
		{"(b>a)", "(a>b)", true},
		{"(I>I)", "(a*b)", false},
		{"(a>(a>I))", "(a>b)", true},
		{"((a*b)>(a*b))", "(c>c)", true},
		{"((a*b)>(b*a))", "(c>c)", false},
		// The variable of the general type may be in its own replacement.
		{"((a*a)>(a*a))", "(a>a)", true},
		{"((a*a)>a)", "(a>b)", true},
		{"((a*a)>a)", "(a>a)", false},
	}
	for _, c := range cases {
		if impl.InstanceOf(typeOf(t, c.special), typeOf(t, c.general)) != c.want {
			t.Errorf("InstanceOf(%s, %s) = %v", c.special, c.general, !c.want)
		}
	}
}

// TestInstancesOfAllTypes compares InstanceOf with all types that result from replacing letters in texts.
func TestInstancesOfAllTypes(t *testing.T) {
	texts := typeTexts(5, "I", "a", "b")
	types := typesOf(t, texts)
	for _, general := range texts[:21] {
		// The parts of a type of 5 nodes have at most 3.
		parts := texts[:21]
		if len(general) == 1 {
			parts = texts
		}
		results := map[string]bool{}
		for _, a := range parts {
			for _, b := range parts {
				results[strings.NewReplacer("a", a, "b", b).Replace(general)] = true
			}
		}
		x := typeOf(t, general)
		for i, special := range texts {
			if impl.InstanceOf(types[i], x) != results[special] {
				t.Errorf("InstanceOf(%s, %s) = %v", special, general, !results[special])
			}
		}
	}
}

// addMemory counts, for each element of Kids that t can reach, how often it is reached, unused capacity included.
func addMemory(count map[*impl.Type]int, t impl.Type) {
	kids := t.Kids[:cap(t.Kids)]
	for i := range kids {
		count[&kids[i]]++
		addMemory(count, kids[i])
	}
}

// TestTypesAreNew checks that results share no memory with arguments, with other results or within themselves.
func TestTypesAreNew(t *testing.T) {
	a := typeOf(t, "((a>b)*(a>b))")
	b := typeOf(t, "(c*(d>(I*I)))")
	list := []impl.Type{typeOf(t, "(I*b)"), typeOf(t, "(a>(b>c))")}
	results := []impl.Type{a, b, list[0], list[1]}
	for range 2 {
		x, _ := impl.SubstVars(a, list)
		y, _ := impl.SubstVars(a, nil)
		z, _ := impl.CanonType(a)
		u, _ := impl.UnifyTypes(a, b)
		v, _ := impl.UnifyTypes(variable(3), a)
		w, _ := impl.ParseType("((a>b)*(a>b))")
		results = append(results, x, y, z, u, v, w)
	}
	count := map[*impl.Type]int{}
	for _, x := range results {
		if x.Kind == 0 {
			t.Fatalf("a result is missing: %v", results)
		}
		addMemory(count, x)
	}
	for at, n := range count {
		if n != 1 {
			t.Errorf("%s is reached %d times", rawText(*at), n)
		}
	}
}

// TestTypesAreKept checks that no function changes its arguments.
func TestTypesAreKept(t *testing.T) {
	a, b := typeOf(t, "((d>b)*(d>b))"), typeOf(t, "(c*(I>(I*I)))")
	list := []impl.Type{typeOf(t, "(I*b)"), typeOf(t, "(a>(b>c))")}
	before := rawText(a) + rawText(b) + rawText(list[0]) + rawText(list[1])
	impl.SubstVars(a, list)
	impl.CanonType(a)
	impl.UnifyTypes(a, b)
	impl.InstanceOf(a, b)
	impl.TypeVars(a)
	impl.TypeSame(a, b)
	if after := rawText(a) + rawText(b) + rawText(list[0]) + rawText(list[1]); after != before {
		t.Errorf("the arguments became %s", after)
	}
}
