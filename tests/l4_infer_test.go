package tests

import (
	"math/rand"
	"slices"
	"strings"
	"testing"

	"loop.example/livetyper/impl"
)

// envOf is a list of names, each followed by the text of its type.
func envOf(t *testing.T, texts ...string) []impl.Known {
	t.Helper()
	var env []impl.Known
	for i := 0; i < len(texts); i += 2 {
		env = append(env, impl.Known{Name: texts[i], Type: typeOf(t, texts[i+1])})
	}
	return env
}

func parsedExpr(t *testing.T, text string) impl.Expr {
	t.Helper()
	e, ok := impl.ParseExpr(text)
	if !ok {
		t.Fatalf("ParseExpr refuses %q", text)
	}
	return e
}

// inferCase has the text of a type as want, or one of the codes name, type and large.
type inferCase struct{ text, want string }

// inferred writes what InferExpr returns as the want of an inferCase.
func inferred(x impl.Type, code int) string {
	if code == impl.InferOk {
		return impl.FormatType(x)
	}
	if !zeroType(x) {
		return "a code with a type"
	}
	return map[int]string{impl.InferName: "name", impl.InferType: "type", impl.InferLarge: "large", impl.InferInvalid: "invalid"}[code]
}

func checkInfer(t *testing.T, env []impl.Known, cases []inferCase) {
	t.Helper()
	for _, c := range cases {
		if got := inferred(impl.InferExpr(env, parsedExpr(t, c.text))); got != c.want {
			t.Errorf("InferExpr(%s) = %s, not %s", c.text, got, c.want)
		}
	}
}

// someEnv has names with and without variables in their types.
func someEnv(t *testing.T) []impl.Known {
	return envOf(t, "n", "I", "i", "(a>a)", "k", "(a>(b>a))", "p", "(z*I)", "c", "((b>c)>((a>b)>(a>c)))",
		"A.n", "(I*I)", "A.i", "((b*a)>(b*a))", "h", "((I>I)>I)", "v", "q", "d", "(a>((a*a)*(a*a)))")
}

func TestInferConstants(t *testing.T) {
	codes := []int{impl.InferOk, impl.InferName, impl.InferType, impl.InferLarge, impl.InferInvalid, impl.MaxKnown}
	if !slices.Equal(codes, []int{0, 1, 2, 3, 4, 60}) {
		t.Errorf("the constants are %v", codes)
	}
}

// TestInferRows has cases for each row of the chapter's table.
func TestInferRows(t *testing.T) {
	checkInfer(t, someEnv(t), []inferCase{
		{"0", "I"}, {"99", "I"},

		{"n", "I"}, {"i", "(a>a)"}, {"k", "(a>(b>a))"}, {"p", "(a*I)"}, {"v", "a"}, {"c", "((a>b)>((c>a)>(c>b)))"},
		{"A.n", "(I*I)"}, {"A.i", "((a*b)>(a*b))"}, {"x", "name"}, {"A.x", "name"}, {"A.k", "name"}, {"B.n", "name"},

		{`\x.x`, "(a>a)"}, {`\x.1`, "(a>I)"}, {`\x.\y.(x,y)`, "(a>(b>(a*b)))"}, {`\x.\x.x`, "(a>(b>b))"},
		{`\x.(x,x)`, "(a>(a*a))"}, {`\x.((x 1),(x 2))`, "((I>a)>(a*a))"}, {`\x.((x 1),(x x))`, "type"},
		{`\i.i`, "(a>a)"}, {`\i.((i 1),(i i))`, "type"}, {`\n.A.n`, "(a>(I*I))"}, {`\x.y`, "name"},

		{"(i 1)", "I"}, {"(i i)", "(a>a)"}, {"(k 1)", "(a>I)"}, {"((k i) n)", "(a>a)"}, {`(\x.x 1)`, "I"},
		{`\f.\x.(f x)`, "((a>b)>(a>b))"}, {`\f.\x.(f (f x))`, "((a>a)>(a>a))"}, {`\x.\f.(f x)`, "(a>((a>b)>b))"},
		{"(h i)", "I"}, {"(h k)", "type"}, {"(h 1)", "type"}, {"(1 2)", "type"}, {"(A.n 1)", "type"}, {"(v v)", "a"},
		{"((c i) i)", "(a>a)"}, {"((c k) k)", "(a>(b>(c>a)))"}, {"(A.i p)", "(a*I)"}, {"(A.i 1)", "type"},

		{"(1+2)", "I"}, {"(n+(i 1))", "I"}, {`\x.\y.(x+y)`, "(I>(I>I))"}, {`\x.(x+x)`, "(I>I)"}, {"(v+v)", "I"},
		{"(i+1)", "type"}, {"(1+i)", "type"}, {"(A.n+1)", "type"}, {"(1+A.n)", "type"},

		{"{x=1;x}", "I"}, {"{x=1;2}", "I"}, {`{x=\y.y;(x x)}`, "(a>a)"}, {`{x=\y.y;((x 1),(x (1,2)))}`, "(I*(I*I))"},
		{"{x=n;(x+n)}", "I"}, {"{x=x;1}", "name"}, {`{x=\y.(y y);1}`, "type"}, {"{x=1;(x 1)}", "type"},

		{"?<1,2,3>", "I"}, {"?<n,i,k>", "type"}, {`?<n,i,\x.(x+1)>`, "(I>I)"}, {`\x.\y.\z.?<x,y,z>`, "(I>(a>(a>a)))"},
		{`\x.?<x,x,x>`, "(I>I)"}, {"?<i,1,1>", "type"}, {"?<1,1,i>", "type"}, {"?<1,i,1>", "type"}, {"?<1,p,A.n>", "(I*I)"},
		{"?<1,A.n,p>", "(I*I)"}, {`?<1,k,\x.\y.y>`, "(a>(a>a))"},

		{"(1,2)", "(I*I)"}, {"(i,(i,k))", "((a>a)*((b>b)*(c>(d>c))))"}, {`\x.(1,x)`, "(a>(I*a))"}, {"(v,v)", "(a*b)"},

		{"^(1,i)", "I"}, {"_(1,i)", "(a>a)"}, {"^p", "a"}, {"_p", "I"}, {`\x.^x`, "((a*b)>a)"}, {`\x._x`, "((a*b)>b)"},
		{"^1", "type"}, {"_1", "type"}, {"^i", "type"}, {"_i", "type"}, {`\x.(^x _x)`, "(((a>b)*a)>b)"}, {"^^((1,2),3)", "I"}, {"_^((i,n),3)", "I"},
	})
}

// TestInferLookup has names with two types in env, and bound names that hide them.
func TestInferLookup(t *testing.T) {
	env := envOf(t, "x", "I", "y", "(a>a)", "x", "(b*b)", "A.x", "(I>a)", "y", "I", "A.x", "(a>I)")
	checkInfer(t, env, []inferCase{
		{"x", "(a*a)"}, {"(x,x)", "((a*a)*(b*b))"}, {"y", "I"}, {"(y+1)", "I"}, {"A.x", "(a>I)"}, {"(x+1)", "type"}, {"^x", "a"},
		{`\x.x`, "(a>a)"}, {`\x.(x+1)`, "(I>I)"}, {`\x.(x,A.x)`, "(a>(a*(b>I)))"}, {`(\x.(x+1) y)`, "I"},
		{"{x=1;(x+1)}", "I"}, {"{x=x;x}", "(a*a)"}, {"{x=(x,1);x}", "((a*a)*I)"}, {"({x=1;(x+1)},x)", "(I*(a*a))"}, {`(\x.(x+1),^x)`, "((I>I)*a)"},
		{`{x=1;{x=\z.z;((x x),(x 1))}}`, "((a>a)*I)"}, {`\x.{x=\z.z;((x x),(x 1))}`, "(a>((b>b)*I))"},
		{`{x=\z.z;\x.(x x)}`, "type"}, {`{x=\z.z;\x.(x 1)}`, "((I>a)>a)"}, {`{x=1;{y=2;(x+y)}}`, "I"}, {`{y=x;{x=1;(^y,x)}}`, "(a*I)"},
		{"({x=1;1}+{z=1;2})", "I"}, {"({z=1;1}+z)", "name"}, {`(\z.z z)`, "name"},
	})
	hiding := envOf(t, "x", "(I*I)", "x", "I")
	if x, ok := impl.LookupName(hiding, "x"); !ok || rawText(x) != "I" {
		t.Errorf("LookupName = %s, %v", impl.FormatType(x), ok)
	}
	for _, c := range []struct{ name, want string }{{"x", "(b*b)"}, {"y", "I"}, {"A.x", "(a>I)"}, {"z", ""}, {"A.y", ""}, {"B.x", ""}, {"A", ""}, {"", ""}, {".x", ""}, {"x ", ""}, {"X", ""}} {
		x, ok := impl.LookupName(env, c.name)
		if ok != (c.want != "") || impl.FormatType(x) != c.want || !ok && !zeroType(x) {
			t.Errorf("LookupName(%s) = %s, %v", c.name, impl.FormatType(x), ok)
		}
	}
}

// TestInferBindings has bindings whose types have variables that are replaced by new ones, and ones that are not.
func TestInferBindings(t *testing.T) {
	checkInfer(t, someEnv(t), []inferCase{
		{`{g=\x.x;((g 1),(g g))}`, "(I*(a>a))"},
		{`{g=i;((g 1),(g g))}`, "(I*(a>a))"},
		{`{g=(i i);((g 1),(g g))}`, "(I*(a>a))"},
		{`{g=(\x.x,1);(^g ^g)}`, "(a>a)"},
		{`\x.{y=x;y}`, "(a>a)"},
		{`\x.{y=x;((y 1),(y 2))}`, "((I>a)>(a*a))"},
		{`\x.{y=x;((y 1),(y y))}`, "type"},
		{`\x.{y=(x,x);(^y 1)}`, "((I>a)>a)"},
		{`\x.{g=\y.(x,y);((g 1),(g g))}`, "(a>((a*I)*(a*(b>(a*b)))))"},
		{`\x.{g=\y.x;((g 1),(g g))}`, "(a>(a*a))"},
		{`\x.{g=\y.(x y);((g 1),(g 2))}`, "((I>a)>(a*a))"},
		{`\x.{g=\y.(x y);((g 1),(g g))}`, "type"},
		{`\x.{g=\y.?<1,x,y>;((g 1),(g 2))}`, "(I>(I*I))"},
		{`\x.{g=\y.?<1,x,y>;((g 1),(g i))}`, "type"},
		// The binding is inferred again by nobody: what it fixes stays so.
		{`\x.{g=(x 1);((x 2),g)}`, "((I>a)>(a*a))"},
		{`\x.{g=(x+1);\y.y}`, "(I>(a>a))"},
		// A variable is fixed when it is bound, and gets a type later.
		{`\x.{g=\y.x;{w=(x+1);(g 2)}}`, "(I>I)"},
		{`\x.{g=\y.(x,y);{w=(x 1);((g 1),(g g))}}`, "((I>a)>(((I>a)*I)*((I>a)*(b>((I>a)*b)))))"},
		{`\x.\z.{g=\y.(x,y);?<1,x,(z,z)>}`, "((a*a)>(a>(a*a)))"},
		{`\x.\z.{g=(x,1);{w=?<1,x,\y.z>;(^g 2)}}`, "((I>a)>(a>a))"}, {`\x.\z.{g=(x,1);{w=?<1,x,\y.z>;(^g g)}}`, "type"},
		// A binding in which a variable is fixed fixes it in the next one.
		{`\x.{y=x;{z=y;((z 1),(z 2))}}`, "((I>a)>(a*a))"},
		{`\x.{y=x;{z=y;((z 1),(z z))}}`, "type"},
		{`\x.{y=x;\x.{z=y;((z 1),(z x))}}`, "((I>a)>(I>(a*a)))"},
		{`\x.{y=(x,\w.w);\x.{z=y;((_z 1),(_z x))}}`, "(a>(b>(I*b)))"},
		{`\x.{x=x;{x=x;((x 1),(x x))}}`, "type"},
		// What is bound inside of the bound expression fixes nothing outside of it.
		{`{g={z=\x.x;z};((g 1),(g g))}`, "(I*(a>a))"},
		{`{g=\x.{z=\y.(x,y);z};(((g 1) 2),((g g) g))}`, "((I*I)*((a>(b>(a*b)))*(c>(d>(c*d)))))"},
		{`{g=\x.{z=x;z};((g 1),(g g))}`, "(I*(a>a))"},
		{`{k=\x.\y.x;{s=\f.\g.\x.((f x) (g x));((s k) k)}}`, "(a>a)"},
		{`\x.{f=\y.x;{g=\y.(f y);((g 1)+(g i))}}`, "(I>I)"},
		{`{g=v;(g,((g+1),(g g)))}`, "(a*(I*b))"},
		// A function that is given to itself.
		{`\x.(x x)`, "type"}, {`(\x.(x x) \x.(x x))`, "type"}, {`{w=\x.(x x);1}`, "type"}, {`{i=\x.x;(((i i) i) i)}`, "(a>a)"},
		{`(\x.(x x) i)`, "type"}, {`\x.(x (x,x))`, "type"}, {`\x.(x,(x x))`, "type"}, {`\x.\y.((x y),(y x))`, "type"}, {`\x.?<1,x,(x,1)>`, "type"},
		{`\x.\y.?<1,(x,y),((y,1),(x,1))>`, "type"}, {`\x.\y.?<1,(x,y),(\z.y,\z.x)>`, "type"}, {`\x.\y.?<1,(x,y),(y,x)>`, "(a>(a>(a*a)))"},
		{`\x.\y.?<1,(x,(x,1)),((y,1),(x,1))>`, "((a*I)>(a>((a*I)*((a*I)*I))))"}, {`\x.{y=x;(x y)}`, "type"}, {`\x.{y=\z.x;(x y)}`, "type"},
		{`\x.\y.?<1,(x,y),((y,y),(1,(2,3)))>`, "(((I*(I*I))*(I*(I*I)))>((I*(I*I))>(((I*(I*I))*(I*(I*I)))*(I*(I*I)))))"},
	})
}

// TestInferOrder has expressions in which more than one code could arise.
func TestInferOrder(t *testing.T) {
	env := append(someEnv(t), impl.Known{Name: "b", Type: full(6, number)})
	checkInfer(t, env, []inferCase{
		{"(x+(1 1))", "name"}, {"((1 1)+x)", "type"}, {"((1 1) x)", "type"}, {"(x (1 1))", "name"}, {"(1 x)", "name"}, {"(i+x)", "type"},
		{"((1 1),x)", "type"}, {"(x,(1 1))", "name"}, {"(^1,x)", "type"}, {"?<x,^1,1>", "name"}, {"?<i,x,1>", "type"}, {"?<1,x,^1>", "name"},
		{"?<1,^1,x>", "type"}, {"?<1,i,(1,x)>", "name"}, {"?<1,1,x>", "name"}, {"^x", "name"}, {"_x", "name"}, {"{x=y;^1}", "name"}, {"{x=^1;y}", "type"},
		{"{x=1;{y=^x;z}}", "type"}, {`\x.(y,(x x))`, "name"}, {`\x.((x x),y)`, "type"}, {`(\x.y ^1)`, "name"}, {`(\x.^1 y)`, "type"},
		{"((b,b)+x)", "large"}, {"(x+(b,b))", "name"}, {"((b,b)+1)", "large"}, {"(i+(b,b))", "type"}, {"(1+(b,b))", "large"}, {"(1 b)", "large"},
		{"((b,1) 1)", "large"}, {"(1 (b,b))", "large"}, {"(x (b,b))", "name"}, {"((b,b) x)", "name"}, {"((b,b),x)", "name"}, {"^((b,b),x)", "name"}, {"^((b,b),1)", "large"},
		{"{y=(b,b);x}", "large"}, {"{y=((b,b),x);1}", "name"}, {"{y=x;(b,b)}", "name"}, {"{y=((b,b),^1);1}", "type"}, {"((b,b),(1 1))", "type"}, {"((b,b),1)", "large"},
		{"?<(b,b),x,1>", "large"}, {"?<1,(b,b),x>", "name"}, {"?<1,(b,b),1>", "large"}, {"?<1,1,(b,b)>", "large"}, {"?<1,b,1>", "type"}, {"?<b,x,1>", "type"},
		{`\x.((x x),(b,b))`, "type"}, {`\x.(x (b,x))`, "large"}, {`\x.(x (x,1))`, "type"}, {"(_b b)", "large"},
	})
}

// sized is a type with this number of nodes, an odd one, and not deep.
func sized(nodes int, leaf impl.Type) impl.Type {
	if nodes == 1 {
		return leaf
	}
	left := nodes / 2
	if left%2 == 0 {
		left--
	}
	return pair(sized(left, leaf), sized(nodes-1-left, leaf))
}

// manyVars is a type with variables of these numbers, in pairs that are not deep.
func manyVars(from, to int) impl.Type {
	if to-from == 1 {
		return variable(from)
	}
	middle := (from + to) / 2
	return pair(manyVars(from, middle), manyVars(middle, to))
}

func knownTypes(list ...any) []impl.Known {
	var env []impl.Known
	for i := 0; i < len(list); i += 2 {
		env = append(env, impl.Known{Name: list[i].(string), Type: list[i+1].(impl.Type)})
	}
	return env
}

// TestInferLarge has types at the limits and just past them.
func TestInferLarge(t *testing.T) {
	n := func(nodes int) string { return rawText(sized(nodes, number)) }
	d := func(depth int) string { return rawText(chain(depth)) }
	a := variable(0)
	env := knownTypes("j", sized(11, number), "k", sized(13, number), "t", sized(29, number), "s", sized(31, number), "r", sized(33, number), "m", sized(61, number), "b", sized(63, number),
		"c", chain(7), "d", chain(8), "e", chain(15), "f", chain(16),
		"i", fun(a, a), "w", fun(a, number), "q", fun(a, full(3, a)), "g", fun(a, bottom(9, a)))
	checkInfer(t, env, []inferCase{
		// Only the type of the whole expression.
		{"m", n(61)}, {"b", n(63)}, {"f", d(16)}, {"(m,1)", "(" + n(61) + "*I)"}, {"(b,1)", "large"}, {"(e,1)", "(" + d(15) + "*I)"}, {"(f,1)", "large"}, {"(1,f)", "large"},
		{"(s,s)", "(" + n(31) + "*" + n(31) + ")"}, {"(s,r)", "large"}, {`\x.m`, "(a>" + n(61) + ")"}, {`\x.b`, "large"}, {`\x.e`, "(a>" + d(15) + ")"}, {`\x.f`, "large"},
		{"{x=1;(m,1)}", "(" + n(61) + "*I)"}, {"{x=1;(b,1)}", "large"},
		// The type of what is bound, used or not.
		{"{x=(b,1);1}", "large"}, {"{x=(m,1);1}", "I"}, {"{x=(f,1);1}", "large"}, {"{x=(e,1);1}", "I"}, {"{x=b;x}", n(63)}, {`{x=\y.b;1}`, "large"}, {"(1,{x=(b,1);1})", "large"},
		// Before two types are made equal, whether they can be or not.
		{"(w m)", "I"}, {"(w b)", "large"}, {"(w e)", "I"}, {"(w f)", "large"}, {"(1 m)", "type"}, {"(1 b)", "large"}, {"(1 e)", "type"}, {"(1 f)", "large"},
		{"(b 1)", "type"}, {"((m,1) 1)", "type"}, {"((b,1) 1)", "large"}, {"((e,1) 1)", "type"}, {"((f,1) 1)", "large"},
		{"(b+1)", "type"}, {"((b,1)+1)", "large"}, {"(f+1)", "type"}, {"((f,1)+1)", "large"}, {"(1+b)", "type"}, {"(1+(1,b))", "large"}, {"(1+(1,f))", "large"},
		{"?<b,1,1>", "type"}, {"?<(b,1),1,1>", "large"}, {"?<1,1,b>", "type"}, {"?<1,b,1>", "type"}, {"?<1,1,(b,1)>", "large"}, {"?<1,(b,1),1>", "large"}, {"?<1,b,b>", n(63)}, {"?<1,f,f>", d(16)},
		{"^(m,1)", n(61)}, {"^(b,1)", "large"}, {"_(1,m)", n(61)}, {"_(1,b)", "large"}, {"^(e,1)", d(15)}, {"^(f,1)", "large"}, {"_(1,f)", "large"}, {"_(e,1)", "I"}, {"^b", n(31)},
		{`^\x.b`, "large"}, {`^\x.m`, "type"},
		// Two types that are not too large become one that is.
		{"(i t)", n(29)}, {"(i s)", n(31)}, {"(i r)", "large"}, {"((i i) s)", n(31)}, {"(w (i s))", "I"}, {"(w (i r))", "large"}, {"(i e)", d(15)},
		{"(q j)", rawText(full(3, sized(11, number)))}, {"(q k)", "large"}, {"(w (q k))", "large"}, {"_(q j)", rawText(full(2, sized(11, number)))},
		{"(g c)", rawText(bottom(9, chain(7)))}, {"(g d)", "large"}, {"(w (g d))", "large"},
		{`\x.{u=?<1,(x,x),(s,x)>;1}`, "(" + n(31) + ">I)"}, {`\x.{u=?<1,(x,x),(r,x)>;1}`, "large"},
		{`\x.\y.{u=?<1,(y,y),(x,t)>;1}`, "(" + n(29) + ">(" + n(29) + ">I))"}, {`\x.\y.{u=?<1,(y,y),(x,s)>;1}`, "large"},
		{`\x.?<1,(x,\y.y),(s,s)>`, "type"}, {`\x.?<1,(x,x),(r,(x,x))>`, "type"},
		// A type that is bound can become too large later, as long as it is not used then.
		{`\x.{z=(x,x);{u=?<1,x,r>;1}}`, "(" + n(33) + ">I)"}, {`\x.{z=(x,x);{u=?<1,x,r>;^(1,z)}}`, "large"}, {`\x.{z=(x,x);{u=?<^(1,z),x,r>;1}}`, "(" + n(33) + ">I)"},
		{`\x.{z=(x,x);{y=z;{u=?<1,x,r>;1}}}`, "(" + n(33) + ">I)"}, {`\x.{z=(x,x);{u=?<1,x,r>;{y=z;1}}}`, "large"}, {`\x.{u=?<1,x,r>;{z=(x,x);1}}`, "large"},
		{`\x.{z=(?<1,x,r>,x);1}`, "large"}, {`\x.{z=(x,?<1,x,r>);1}`, "large"}, {`\x.{z=(x,?<1,x,s>);1}`, "(" + n(31) + ">I)"},
	})
}

// bottom is a type of this depth with one leaf at the bottom, and numbers above.
func bottom(depth int, leaf impl.Type) impl.Type {
	if depth == 1 {
		return leaf
	}
	return pair(bottom(depth-1, leaf), number)
}

// TestInferDoubling has types that double with each binding.
func TestInferDoubling(t *testing.T) {
	for _, body := range []struct {
		text  string
		limit int
		leaf  func(doublings int) string
	}{
		{"x", 5, func(k int) string { return rawText(full(k+1, number)) }},
		{"1", 5, func(int) string { return "I" }},
		{"(x,x)", 4, func(k int) string { return rawText(full(k+2, number)) }},
		{"^x", 5, func(k int) string { return rawText(full(k, number)) }},
	} {
		for k := 1; k <= 9; k++ {
			want := "large"
			if k <= body.limit {
				want = body.leaf(k)
			}
			checkInfer(t, nil, []inferCase{{"{x=1;" + strings.Repeat("{x=(x,x);", k) + body.text + strings.Repeat("}", k+1), want}})
		}
	}
	fives := rawText(full(5, variable(0)))
	begin := `{p=\x.(x,x);{q=\x.(p (p x));{r=\x.(q (q x));`
	checkInfer(t, nil, []inferCase{
		{begin + "p}}}", "(a>(a*a))"}, {begin + "q}}}", "(a>((a*a)*(a*a)))"}, {begin + "r}}}", "(a>" + fives + ")"}, {begin + "(r 1)}}}", rawText(full(5, number))}, {begin + "(r r)}}}", "large"},
		{begin + `{s=\x.(r (p x));1}}}}`, "large"}, {begin + `{s=\x.(p (r x));1}}}}`, "large"}, {begin + `{s=\x.(r (r x));1}}}}`, "large"}, {begin + `{s=\x.(p (q x));s}}}}`, "(a>" + rawText(full(4, variable(0))) + ")"},
	})
	// The type of the outer p has 16 times as many leaves with each link, but only the last part of it is used.
	env := knownTypes("k", pair(full(5, variable(0)), variable(0)))
	links := `\p.` + strings.Repeat("{p=_?<1,p,k>;", 8)
	for body, want := range map[string]string{"1": "large", "p": "large", "(p+1)": "large", "(1 1)": "type", `(\y.y x)`: "name"} {
		checkInfer(t, env, []inferCase{{links + body + strings.Repeat("}", 8), want}})
	}
	links = strings.Repeat("{p=_?<1,p,k>;", 7)
	checkInfer(t, env, []inferCase{
		{`\p.{z=\y.(p,y);` + links + "{p=z;1}" + strings.Repeat("}", 8), "large"}, {`\p.{z=\y.(p,y);` + links + "{p=1;(p p)}" + strings.Repeat("}", 8), "type"},
		{`\p.{z=\y.(p,y);` + links + "(z x)" + strings.Repeat("}", 8), "name"}, {`\p.{z=\y.(p,y);` + links + "(z 1)" + strings.Repeat("}", 8), "large"},
	})
}

// TestInferVars has types with as many variables as there can be, and with more.
func TestInferVars(t *testing.T) {
	all := rawText(manyVars(0, 26))
	env := knownTypes("v", manyVars(0, 26), "o", manyVars(13, 26), "u", variable(25), "w", fun(variable(3), number))
	checkInfer(t, env, []inferCase{
		{"v", all}, {"(v,1)", "(" + all + "*I)"}, {"(v,u)", "large"}, {"(u,v)", "large"}, {`\x.v`, "large"}, {"(o,o)", rawText(pair(manyVars(0, 13), manyVars(13, 26)))},
		{"(o,(o,1))", rawText(pair(manyVars(0, 13), pair(manyVars(13, 26), number)))}, {"(o,(o,u))", "large"}, {`\x.((x,x),((x,x),x))`, "(a>((a*a)*((a*a)*a)))"},
		// Other types can have any number of variables.
		{`(\x.v 1)`, all}, {"^(v,u)", all}, {"_(v,u)", "a"}, {"(w (v,u))", "I"}, {"_((v,u),1)", "I"}, {"{z=(v,u);1}", "I"}, {"{z=(v,u);^z}", all}, {"{z=(v,u);z}", "large"},
		{`?<1,(v,u),(v,1)>`, "(" + all + "*I)"}, {`?<1,(v,u),(v,u)>`, "large"}, {`\x.{z=v;x}`, "(a>a)"}, {`\x.{z=(v,x);x}`, "(a>a)"}, {`{z=(v,u);{y=(^z,_z);(w y)}}`, "I"},
	})
}

func badKnownNames() []string {
	list := slices.DeleteFunc(badValueNames(), func(name string) bool { return name == "A.x" })
	return append(list, "A.", ".x", ".", "A.X", "a.x", "A x", "A..x", "A.xy", "AB.x", " A.x", "A.x ", "@.x", "[.x", "A.`", "A.{", "A,x", "1.x", "A.1", "A.\xe9", "A.é", "É.x", "\xc9.x", "x.A", "x.", "A.x\n", "A\x00x")
}

func TestEnvValid(t *testing.T) {
	var files []string
	for c := 'A'; c <= 'Z'; c++ {
		files = append(files, string(c)+".")
	}
	for _, file := range append(files, "") {
		for c := 'a'; c <= 'z'; c++ {
			if !impl.EnvValid(knownTypes(file+string(c), number)) {
				t.Errorf("the name %s%c is refused", file, c)
			}
		}
	}
	for _, x := range goodTypes(t) {
		if !impl.EnvValid(knownTypes("x", number, "x", x, "A.x", x)) {
			t.Errorf("the type %s is refused", rawText(x))
		}
	}
	if !impl.EnvValid(nil) || !impl.EnvValid([]impl.Known{}) {
		t.Error("the empty list is refused")
	}
	for n := range 200 {
		if ok := impl.EnvValid(slices.Repeat(knownTypes("x", number), n)); ok != (n <= 60) {
			t.Errorf("EnvValid with %d elements is %v", n, ok)
		}
	}
}

// badEnvs are lists that are not valid, mostly with names x and y of valid types.
func badEnvs() [][]impl.Known {
	list := [][]impl.Known{{{}}, slices.Repeat(knownTypes("x", number), impl.MaxKnown+1), slices.Repeat(knownTypes("y", number), 10000)}
	for _, name := range badKnownNames() {
		list = append(list, knownTypes(name, number), knownTypes("x", number, name, number), knownTypes(name, number, "x", number, "y", variable(1)))
	}
	for _, bad := range badTypes() {
		list = append(list, knownTypes("x", bad), knownTypes("x", number, "y", bad), knownTypes("y", bad, "x", number, "y", number), knownTypes("x", bad, "x", number))
	}
	return list
}

func TestBadEnvs(t *testing.T) {
	for i, env := range badEnvs() {
		if impl.EnvValid(env) {
			t.Errorf("list %d is valid", i)
		}
		for _, known := range env[:min(len(env), 5)] {
			if x, ok := impl.LookupName(env, known.Name); ok || !zeroType(x) {
				t.Errorf("LookupName in list %d = %v, %v", i, x, ok)
			}
		}
		for _, text := range []string{"1", "x", "z", "(1 1)", "(x+y)", `\x.x`} {
			e := parsedExpr(t, text)
			if x, code := impl.InferExpr(env, e); code != impl.InferInvalid || !zeroType(x) {
				t.Errorf("InferExpr(%s) with list %d = %v, %d", text, i, x, code)
			}
			if code := impl.CheckExpr(env, e, number); code != impl.InferInvalid {
				t.Errorf("CheckExpr(%s) with list %d = %d", text, i, code)
			}
		}
	}
}

func TestInferBadExprs(t *testing.T) {
	env := someEnv(t)
	for i, e := range badExprs() {
		for _, known := range [][]impl.Known{nil, env, {{}}} {
			if x, code := impl.InferExpr(known, e); code != impl.InferInvalid || !zeroType(x) {
				t.Errorf("InferExpr of expression %d = %v, %d", i, x, code)
			}
			if code := impl.CheckExpr(known, e, variable(0)); code != impl.InferInvalid {
				t.Errorf("CheckExpr of expression %d = %d", i, code)
			}
		}
	}
}

// TestInferLimits has valid expressions and lists at their limits.
func TestInferLimits(t *testing.T) {
	env := append(slices.Repeat(knownTypes("n", full(6, variable(25))), 58), knownTypes("y", number, "A.x", pair(number, number))...)
	deep := strings.Repeat("(y+", 11) + "y" + strings.Repeat(")", 11)
	checkInfer(t, env, []inferCase{{rawExpr(wideExpr(60)), "I"}, {rawExpr(wideExpr(59)), "I"}, {rawExpr(chainExpr(12)), "type"}, {rawExpr(deepExpr(12)), "type"}, {deep, "I"}, {"n", rawText(full(6, variable(0)))}})
	for _, text := range []string{strings.Repeat(`\x.`, 11) + "x", strings.Repeat("{x=1;", 11) + "x" + strings.Repeat("}", 11)} {
		if _, code := impl.InferExpr(env, parsedExpr(t, text)); code != impl.InferOk {
			t.Errorf("InferExpr(%s) returns the code %d", text, code)
		}
	}
}

func TestCheckExpr(t *testing.T) {
	env := append(someEnv(t), impl.Known{Name: "b", Type: full(6, number)})
	for _, c := range []struct {
		text, want string
		code       int
	}{
		{"n", "I", impl.InferOk}, {"n", "a", impl.InferType}, {"n", "(I*I)", impl.InferType}, {"v", "I", impl.InferOk}, {"v", "z", impl.InferOk}, {"v", "(a>(b*a))", impl.InferOk},
		{`\x.x`, "(a>a)", impl.InferOk}, {`\x.x`, "(z>z)", impl.InferOk}, {`\x.x`, "(I>I)", impl.InferOk}, {`\x.x`, "((a*b)>(a*b))", impl.InferOk}, {`\x.x`, "(a>b)", impl.InferType}, {`\x.x`, "((a*b)>(b*a))", impl.InferType},
		{`\x.x`, "(I>a)", impl.InferType}, {`\x.x`, "a", impl.InferType}, {`\x.x`, "(a*a)", impl.InferType}, {`\x.(x+1)`, "(a>a)", impl.InferType}, {`\x.(x+1)`, "(I>I)", impl.InferOk}, {`\x.(x+1)`, "(I>a)", impl.InferType},
		{"k", "(a>(b>a))", impl.InferOk}, {"k", "(a>(a>a))", impl.InferOk}, {"k", "(a>(a>b))", impl.InferType}, {"k", "(b>(a>b))", impl.InferOk}, {"p", "(I*I)", impl.InferOk}, {"p", "(a*a)", impl.InferType}, {"p", "(a*I)", impl.InferOk},
		{"x", "I", impl.InferName}, {"(x 1)", "a", impl.InferName}, {"(1 1)", "I", impl.InferType}, {"(1 1)", "(I*I)", impl.InferType}, {"(b,b)", "I", impl.InferLarge}, {"(b+(b,b))", "I", impl.InferType}, {"((b,b)+b)", "I", impl.InferLarge},
		{"{x=(b,b);1}", "I", impl.InferLarge}, {"{x=(b,b);1}", "(I*I)", impl.InferLarge}, {`\x.(x x)`, "(a>a)", impl.InferType},
	} {
		if code := impl.CheckExpr(env, parsedExpr(t, c.text), typeOf(t, c.want)); code != c.code {
			t.Errorf("CheckExpr(%s, %s) = %d, not %d", c.text, c.want, code, c.code)
		}
	}
	for i, want := range badTypes() {
		for _, text := range []string{"1", "v", "x", "(1 1)", "((b,b)+1)"} {
			for _, known := range [][]impl.Known{env, nil, {{}}} {
				if code := impl.CheckExpr(known, parsedExpr(t, text), want); code != impl.InferInvalid {
					t.Errorf("CheckExpr(%s) with type %d = %d", text, i, code)
				}
			}
		}
		if code := impl.CheckExpr(env, impl.Expr{}, want); code != impl.InferInvalid {
			t.Errorf("CheckExpr with type %d = %d", i, code)
		}
	}
}

// plainBinding is a name that is bound in an expression. One that is bound by an ExprLet has the bindings around this.
type plainBinding struct {
	name   string
	of     impl.Type
	isLet  bool
	around []plainBinding
}

// plainTyper follows the rules of the document with replacements of variables, and decides at each use of a name which of its variables are new.
type plainTyper struct {
	env  []impl.Known
	put  replacing
	next int
}

func (p *plainTyper) variable() impl.Type {
	p.next++
	return variable(p.next)
}

// vars adds the variables of x that have not been replaced to a set, and those on the way to them.
func (p *plainTyper) vars(set map[int]bool, x impl.Type) {
	if x.Kind == impl.TypeVar {
		if set[x.N] {
			return
		}
		set[x.N] = true
		if to, ok := p.put[x.N]; ok {
			p.vars(set, to)
		}
	}
	for _, kid := range x.Kids {
		p.vars(set, kid)
	}
}

// fixed returns the variables of names that are not replaced by new ones.
func (p *plainTyper) fixed(names []plainBinding) map[int]bool {
	set := map[int]bool{}
	for _, b := range names {
		if !b.isLet {
			p.vars(set, b.of)
			continue
		}
		own, around := map[int]bool{}, p.fixed(b.around)
		p.vars(own, b.of)
		for n := range own {
			if around[n] {
				set[n] = true
			}
		}
	}
	return set
}

// renewed returns x with new variables, but for those that are kept. The replacements of x get new variables too.
func (p *plainTyper) renewed(x impl.Type, kept map[int]bool, to map[int]int) impl.Type {
	if x.Kind == impl.TypeVar && !kept[x.N] {
		n, ok := to[x.N]
		if !ok {
			n = p.variable().N
			to[x.N] = n
			if y, ok := p.put[x.N]; ok {
				p.put[n] = p.renewed(y, kept, to)
			}
		}
		return variable(n)
	}
	kids := slices.Clone(x.Kids)
	for i, kid := range kids {
		kids[i] = p.renewed(kid, kept, to)
	}
	x.Kids = kids
	return x
}

// size returns the type with its replacements, and false if it is too large.
func (p *plainTyper) size(x impl.Type) (impl.Type, bool) {
	nodes := 0
	x, ok := p.put.done(x, &nodes)
	return x, ok && nodes <= 63 && plainDepth(x) <= 16
}

func plainDepth(x impl.Type) int {
	depth := 0
	for _, kid := range x.Kids {
		depth = max(depth, plainDepth(kid))
	}
	return depth + 1
}

func (p *plainTyper) equal(a, b impl.Type) int {
	_, fine := p.size(a)
	_, good := p.size(b)
	if !fine || !good {
		return impl.InferLarge
	}
	if !p.put.unify(a, b) {
		return impl.InferType
	}
	if _, ok := p.size(a); !ok {
		return impl.InferLarge
	}
	return impl.InferOk
}

func (p *plainTyper) nameType(e impl.Expr, names []plainBinding) (impl.Type, int) {
	for _, b := range slices.Backward(names) {
		if e.Mod == "" && b.name == e.Name {
			if !b.isLet {
				return b.of, 0
			}
			return p.renewed(b.of, p.fixed(b.around), map[int]int{}), 0
		}
	}
	for _, known := range slices.Backward(p.env) {
		if known.Name == rawExpr(e) {
			// These variables are no others: none has a negative number.
			negative := replacing{}
			for n := range 26 {
				negative[n] = variable(-1 - n)
			}
			nodes := 0
			x, _ := negative.done(known.Type, &nodes)
			return p.renewed(x, nil, map[int]int{}), 0
		}
	}
	return impl.Type{}, impl.InferName
}

func (p *plainTyper) typeAndCode(e impl.Expr, names []plainBinding) (impl.Type, int) {
	var kids []impl.Type
	for i, kid := range e.Kids {
		inside := names
		switch {
		case e.Kind == impl.ExprFun:
			kids = append(kids, p.variable())
			inside = append(slices.Clone(names), plainBinding{name: e.Name, of: kids[0]})
		case e.Kind == impl.ExprLet && i == 1:
			if _, ok := p.size(kids[0]); !ok {
				return impl.Type{}, impl.InferLarge
			}
			inside = append(slices.Clone(names), plainBinding{name: e.Name, of: kids[0], isLet: true, around: names})
		}
		x, code := p.typeAndCode(kid, inside)
		if code == 0 && (e.Kind == impl.ExprAdd || e.Kind == impl.ExprIf && i == 0) {
			code = p.equal(x, number)
		}
		if code != 0 {
			return impl.Type{}, code
		}
		kids = append(kids, x)
	}
	a, b := p.variable(), p.variable()
	switch e.Kind {
	case impl.ExprName:
		return p.nameType(e, names)
	case impl.ExprFun:
		return fun(kids[0], kids[1]), 0
	case impl.ExprApp:
		return a, p.equal(kids[0], fun(kids[1], a))
	case impl.ExprLet:
		return kids[1], 0
	case impl.ExprIf:
		return kids[1], p.equal(kids[1], kids[2])
	case impl.ExprPair:
		return pair(kids[0], kids[1]), 0
	case impl.ExprFst:
		return a, p.equal(kids[0], pair(a, b))
	case impl.ExprSnd:
		return b, p.equal(kids[0], pair(a, b))
	}
	return number, 0
}

// plainInfer returns what inferred should write.
func plainInfer(env []impl.Known, e impl.Expr) string {
	p := plainTyper{env: env, put: replacing{}}
	x, code := p.typeAndCode(e, nil)
	if code == impl.InferOk {
		var ok bool
		if x, ok = p.size(x); ok {
			names := map[int]int{}
			x = numbered(x, names)
			ok = len(names) <= 26
		}
		if ok {
			return rawText(x)
		}
		code = impl.InferLarge
	}
	return inferred(impl.Type{}, code)
}

// numbered replaces variables by their indices in the order in which they are met.
func numbered(x impl.Type, names map[int]int) impl.Type {
	if x.Kind == impl.TypeVar {
		n, ok := names[x.N]
		if !ok {
			n = len(names)
			names[x.N] = n
		}
		return variable(n)
	}
	var kids []impl.Type
	for _, kid := range x.Kids {
		kids = append(kids, numbered(kid, names))
	}
	return impl.Type{Kind: x.Kind, Kids: kids}
}

// comparePlain compares InferExpr with the plain rules, and counts the results by the codes, with "ok" for a type.
func comparePlain(t *testing.T, env []impl.Known, list []impl.Expr) map[string]int {
	t.Helper()
	count := map[string]int{}
	for _, e := range list {
		if !impl.ExprValid(e) {
			continue
		}
		got, want := inferred(impl.InferExpr(env, e)), plainInfer(env, e)
		if got != want {
			t.Fatalf("InferExpr(%s) = %s, not %s", rawExpr(e), got, want)
		}
		if strings.Trim(want, "nametypelarge") != "" || want == "a" {
			want = "ok"
		}
		count[want]++
	}
	return count
}

func TestInferAllExprs(t *testing.T) {
	env := envOf(t, "A.x", "(a>(b>a))")
	count := comparePlain(t, env, exprsUpTo(6, []impl.Expr{numExpr(1), nameExpr("x"), nameExpr("A.x")}))
	if count["ok"] < 3000 || count["name"] < 3000 || count["type"] < 3000 {
		t.Errorf("the results are %v", count)
	}
	env = knownTypes("x", full(6, variable(0)), "A.x", fun(variable(0), pair(variable(0), variable(0))))
	count = comparePlain(t, env, exprsUpTo(6, []impl.Expr{nameExpr("x"), nameExpr("A.x")}))
	if count["ok"] < 300 || count["large"] < 300 || count["type"] < 300 {
		t.Errorf("the results with large types are %v", count)
	}
}

// randomUse is an expression that uses names of env and those that are bound, mostly.
func randomUse(r *rand.Rand, depth int, env []impl.Known, bound []string) impl.Expr {
	if depth == 1 || r.Intn(8) == 0 {
		switch n := r.Intn(12); {
		case n == 0:
			return numExpr(r.Intn(3))
		case n < 8 && len(bound) > 0:
			return nameExpr(bound[len(bound)-1-r.Intn(min(3, len(bound)))])
		case n < 9 && r.Intn(5) == 0:
			return nameExpr(string(valueLetters[r.Intn(26)]))
		}
		return nameExpr(env[r.Intn(len(env))].Name)
	}
	k := kindsWithOperands[[]int{0, 0, 1, 1, 1, 2, 3, 3, 3, 3, 4, 5, 5, 6, 7}[r.Intn(15)]]
	e := exprOf(k.kind, k.name)
	if k.name != "" {
		e.Name = string("xyzwv"[r.Intn(5)])
	}
	for i := range k.kids {
		inside := bound
		if k.kind == impl.ExprFun || k.kind == impl.ExprLet && i == 1 {
			inside = append(slices.Clone(bound), e.Name)
		}
		kid := randomUse(r, depth-1, env, inside)
		if k.kind == impl.ExprIf && i == 0 {
			kid = numExpr(0)
		}
		e.Kids = append(e.Kids, kid)
	}
	return e
}

func TestInferRandomExprs(t *testing.T) {
	r := rand.New(rand.NewSource(7))
	total := map[string]int{}
	for range 300 {
		env := append(someEnv(t), knownTypes("b", full(5, variable(1)))...)
		for range 4 {
			env = append(env, impl.Known{Name: string("stuo"[r.Intn(4)]), Type: smallType(r, 1+r.Intn(6))})
		}
		var list []impl.Expr
		for range 200 {
			list = append(list, randomUse(r, 2+r.Intn(5), env, nil))
		}
		for result, n := range comparePlain(t, env, list) {
			total[result] += n
		}
	}
	if total["ok"] < 5000 || total["name"] < 500 || total["type"] < 5000 || total["large"] < 200 {
		t.Errorf("the results are %v", total)
	}
}

// smallType is a random type that is valid.
func smallType(r *rand.Rand, depth int) impl.Type {
	for {
		if x := randomType(r, depth, 1+r.Intn(5)); impl.TypeValid(x) {
			return x
		}
	}
}

// TestInferredTypesOfBindings checks that a binding has the type of its expression with what is bound in place of the name, which rules without new variables give.
func TestInferredTypesOfBindings(t *testing.T) {
	r := rand.New(rand.NewSource(8))
	env := someEnv(t)
	fine, failing := 0, 0
	for range 40000 {
		// The name m is bound around both, and nowhere inside.
		a, b := randomUse(r, 1+r.Intn(4), env, []string{"m"}), randomUse(r, 1+r.Intn(4), env, []string{"m", "g"})
		put := putFree(b, "g", a)
		let := exprOf(impl.ExprFun, "m", exprOf(impl.ExprLet, "g", a, b))
		put = exprOf(impl.ExprFun, "m", put)
		if !strings.Contains(rawExpr(replaceFree(b, "g", "q")), "q") || hasFree(a, "xyzwvg") || !impl.ExprValid(put) || !impl.ExprValid(let) {
			continue
		}
		bound, replaced := inferred(impl.InferExpr(env, let)), inferred(impl.InferExpr(env, put))
		if bound == "large" || replaced == "large" || bound == "name" || replaced == "name" {
			continue
		}
		if bound != replaced {
			t.Fatalf("%s has the type %s, and %s has %s", rawExpr(let), bound, rawExpr(put), replaced)
		}
		if bound == "type" {
			failing++
		} else {
			fine++
		}
	}
	if fine < 1000 || failing < 1000 {
		t.Errorf("%d expressions have types, and %d have none", fine, failing)
	}
}

// putFree replaces a name where it is not bound by an expression.
func putFree(e impl.Expr, name string, put impl.Expr) impl.Expr {
	if e.Kind == impl.ExprName && e.Mod == "" && e.Name == name {
		return put
	}
	kids := slices.Clone(e.Kids)
	for i, kid := range kids {
		if e.Name != name || e.Kind == impl.ExprLet && i == 0 {
			kids[i] = putFree(kid, name, put)
		}
	}
	e.Kids = kids
	return e
}

// hasFree reports whether e uses one of these names without binding it.
func hasFree(e impl.Expr, names string) bool {
	return slices.ContainsFunc(impl.FreeNames(e), func(name string) bool { return strings.Contains(names, name) })
}

// TestInferredTypesAreMostGeneral checks that an expression can be used with just those types that are instances of the one that is found.
func TestInferredTypesAreMostGeneral(t *testing.T) {
	r := rand.New(rand.NewSource(9))
	env := someEnv(t)
	texts := typeTexts(7, "I")
	instances, others := 0, 0
	for range 3000 {
		e := randomUse(r, 1+r.Intn(4), env, nil)
		x, code := impl.InferExpr(env, e)
		if code != impl.InferOk {
			continue
		}
		uses := exprOf(impl.ExprApp, "", nameExpr("u"), e)
		for i := range 20 {
			want := typeOf(t, texts[r.Intn(len(texts))])
			if i < 8 {
				want, _ = impl.SubstVars(x, slices.Repeat(typesOf(t, []string{texts[r.Intn(8)], texts[r.Intn(4)], texts[0]}), 9)[:26])
			}
			if want.Kind == 0 || !impl.ExprValid(uses) {
				continue
			}
			known := append(slices.Clone(env), impl.Known{Name: "u", Type: fun(want, number)})
			_, usable := impl.InferExpr(known, uses)
			checked := impl.CheckExpr(env, e, want)
			if usable == impl.InferLarge || !impl.EnvValid(known) {
				continue
			}
			if checked != usable || i < 8 && checked != impl.InferOk {
				t.Fatalf("%s has the type %s, and CheckExpr with %s returns %d, but it can be used with the code %d", rawExpr(e), rawText(x), rawText(want), checked, usable)
			}
			if checked == impl.InferOk {
				instances++
			} else {
				others++
			}
		}
	}
	if instances < 5000 || others < 5000 {
		t.Errorf("%d types are instances, and %d are not", instances, others)
	}
}

// TestInferredTypesAreNew checks that results share no memory with env, with other results or within themselves.
func TestInferredTypesAreNew(t *testing.T) {
	env := knownTypes("x", full(3, number), "f", fun(full(2, variable(1)), full(2, variable(1))))
	count := map[*impl.Type]int{}
	for _, known := range env {
		addMemory(count, known.Type)
	}
	for range 2 {
		for _, name := range []string{"x", "f"} {
			x, ok := impl.LookupName(env, name)
			if !ok {
				t.Fatalf("LookupName does not find %s", name)
			}
			addMemory(count, x)
		}
		for _, text := range []string{"x", "f", "(x,x)", `\y.(y,y)`, "{z=x;(z,(z,f))}", "((1,2),(1,2))", `\y.{z=(y,1);?<1,z,(x,1)>}`} {
			x, code := impl.InferExpr(env, parsedExpr(t, text))
			if code != impl.InferOk {
				t.Fatalf("InferExpr(%s) returns the code %d", text, code)
			}
			addMemory(count, x)
		}
	}
	for at, n := range count {
		if n != 1 {
			t.Errorf("%s is reached %d times", rawText(*at), n)
		}
	}
}

// TestEnvIsKept checks that no function changes its arguments.
func TestEnvIsKept(t *testing.T) {
	env := someEnv(t)
	longer := append(slices.Clone(env), envOf(t, "y", "(a>I)")...)
	e := parsedExpr(t, `{i=\x.(i x);((i 1),(A.i (n,c)))}`)
	want := typeOf(t, "(b*b)")
	shorter := longer[:len(env)]
	before := copyExpr(e)
	impl.EnvValid(shorter)
	impl.LookupName(shorter, "i")
	impl.InferExpr(shorter, e)
	impl.CheckExpr(shorter, e, want)
	for i, known := range append(someEnv(t), envOf(t, "y", "(a>I)")...) {
		if longer[i].Name != known.Name || rawText(longer[i].Type) != rawText(known.Type) {
			t.Errorf("element %d became %s with %s", i, longer[i].Name, rawText(longer[i].Type))
		}
	}
	if !equalExprs(e, before) || rawText(want) != "(b*b)" {
		t.Errorf("the arguments became %s and %s", rawExpr(e), rawText(want))
	}
}
