package parse_test

import (
	"strings"
	"testing"

	"glyph/api"
	"glyph/array"
	"glyph/lex"
	"glyph/parse"
	"glyph/rat"
)

func TestAtoms(t *testing.T) { // P10.1
	half, _ := rat.Div(rat.OfInt(-3), rat.OfInt(2))
	makes(t, "5", whole(0, 5))
	makes(t, "  ¯1.5", con(2, array.Rat(half)))
	makes(t, "'a'", con(0, array.Char('a')))
	makes(t, "''", con(0, array.Text("")))
	makes(t, "'it''s'", con(0, array.Text("it's")))
	makes(t, "A", name(0, "A"))
	makes(t, "\t_∆9", name(1, "_∆9"))
	makes(t, "⍺", name(0, "⍺"))
	makes(t, " ⍵", name(1, "⍵"))
	for _, v := range []string{"⎕", "⎕IO", "⎕CT", "⎕PP"} {
		makes(t, v, name(0, v))
		makes(t, v+"[1]", indexed(len([]rune(v)), name(0, v), whole(len([]rune(v))+1, 1)))
	}
	makes(t, "N", niladic(0, "N"))
	makes(t, "NIL", niladic(0, "NIL"))
	makes(t, "NN", name(0, "NN"))
	makes(t, "FF", name(0, "FF"))
	makes(t, "f", name(0, "f"))
	makes(t, "(5)", whole(1, 5))
	makes(t, "((A))", name(2, "A"))
	makes(t, "(1 2)", strand(whole(1, 1), whole(3, 2)))
	makes(t, "(A←5)", assign(2, "A", whole(3, 5)))
}

func TestIndexed(t *testing.T) { // P10.1
	makes(t, "A[1]", indexed(1, name(0, "A"), whole(2, 1)))
	makes(t, "A []", indexed(2, name(0, "A"), left()))
	makes(t, "A[;]", indexed(1, name(0, "A"), left(), left()))
	makes(t, "A[1;;2]", indexed(1, name(0, "A"), whole(2, 1), left(), whole(5, 2)))
	makes(t, "A[1][2;3]", indexed(4, indexed(1, name(0, "A"), whole(2, 1)), whole(5, 2), whole(7, 3)))
	makes(t, "A[B[1]]", indexed(1, name(0, "A"), indexed(3, name(2, "B"), whole(4, 1))))
	makes(t, "'abc'[2]", indexed(5, con(0, array.Text("abc")), whole(6, 2)))
	makes(t, "5[1]", indexed(1, whole(0, 5), whole(2, 1)))
	makes(t, "N[1]", indexed(1, niladic(0, "N"), whole(2, 1)))
	makes(t, "(1 2)[1]", indexed(5, strand(whole(1, 1), whole(3, 2)), whole(6, 1)))
	makes(t, "A[+/B]", indexed(1, name(0, "A"), monadic(op(prim(2, "+"), "/"), name(4, "B"))))
	makes(t, "A[B←1]", indexed(1, name(0, "A"), assign(3, "B", whole(4, 1))))
}

func TestStrands(t *testing.T) { // P10.1
	makes(t, "1 2 3", strand(whole(0, 1), whole(2, 2), whole(4, 3)))
	makes(t, "1 2[3]", strand(whole(0, 1), indexed(3, whole(2, 2), whole(4, 3))))
	makes(t, "A[1]B", strand(indexed(1, name(0, "A"), whole(2, 1)), name(4, "B")))
	makes(t, "A'b'N⍵(1)", strand(name(0, "A"), con(1, array.Char('b')), niladic(4, "N"), name(5, "⍵"), whole(7, 1)))
	makes(t, "(A)(1 2)", strand(name(1, "A"), strand(whole(4, 1), whole(6, 2))))
	makes(t, "(+A)B", strand(monadic(prim(1, "+"), name(2, "A")), name(4, "B")))
	makes(t, "A[1] B[2]", strand(indexed(1, name(0, "A"), whole(2, 1)), indexed(6, name(5, "B"), whole(7, 2))))
}

func TestFunctions(t *testing.T) { // P10.1
	a := func(at int) api.Tree { return name(at, "A") }
	for _, c := range lex.Primitives() {
		glyph := string(c)
		if strings.Contains("¨∘.⍨", glyph) {
			continue
		}
		makes(t, glyph+"A", monadic(prim(0, glyph), a(1)))
		makes(t, "A"+glyph+"A", dyadic(a(0), prim(1, glyph), a(2)))
		if strings.Contains(`/⌿\⍀`, glyph) {
			makes(t, "-"+glyph+"A", monadic(op(prim(0, "-"), glyph), a(2)))
		} else {
			makes(t, "-"+glyph+"A", monadic(prim(0, "-"), monadic(prim(1, glyph), a(2))))
		}
	}
	makes(t, "F A", monadic(user(0, "F"), a(2)))
	makes(t, "A F A", dyadic(a(0), user(2, "F"), a(4)))
	makes(t, "∇A", monadic(user(0, "∇"), a(1)))
	makes(t, "A∇A", dyadic(a(0), user(1, "∇"), a(2)))
	for _, f := range []string{"⎕FX", "⎕CR", "⎕EX", "⎕NC", "⎕ES", "⎕EA"} {
		makes(t, f+" A", monadic(user(0, f), a(4)))
		makes(t, "A "+f+"¨A", dyadic(a(0), op(user(2, f), "¨"), a(6)))
	}
	makes(t, "{⍵}A", monadic(dfn(0, "{⍵}"), a(3)))
	makes(t, "+/A", monadic(op(prim(0, "+"), "/"), a(2)))
	makes(t, "+/ /A", monadic(op(op(prim(0, "+"), "/"), "/"), a(4)))
	makes(t, "A+/A", dyadic(a(0), op(prim(1, "+"), "/"), a(3)))
	makes(t, "A / A", dyadic(a(0), prim(2, "/"), a(4)))
	makes(t, "//A", monadic(op(prim(0, "/"), "/"), a(2)))
	makes(t, " F¨⍨⌿⍀A", monadic(op(op(op(op(user(1, "F"), "¨"), "⍨"), "⌿"), "⍀"), a(6)))
	makes(t, "A∘.×A", dyadic(a(0), jot(1, prim(3, "×")), a(4)))
	makes(t, "A ∘ . F A", dyadic(a(0), jot(2, user(6, "F")), a(8)))
	makes(t, "∘.×/A", monadic(op(jot(0, prim(2, "×")), "/"), a(4)))
	makes(t, "∘.×.-A", monadic(dot(jot(0, prim(2, "×")), prim(4, "-")), a(5)))
	makes(t, "A+.×A", dyadic(a(0), dot(prim(1, "+"), prim(3, "×")), a(4)))
	makes(t, "A+.×.-A", dyadic(a(0), dot(dot(prim(1, "+"), prim(3, "×")), prim(5, "-")), a(6)))
	makes(t, "A+/.×⍨A", dyadic(a(0), op(dot(op(prim(1, "+"), "/"), prim(4, "×")), "⍨"), a(6)))
	makes(t, "F.G A", monadic(dot(user(0, "F"), user(2, "G")), a(4)))
	makes(t, "+./A", monadic(dot(prim(0, "+"), prim(2, "/")), a(3)))
	makes(t, "{⍺}.{⍵}A", monadic(dot(dfn(0, "{⍺}"), dfn(4, "{⍵}")), a(7)))
	makes(t, "+[1]A", monadic(on(prim(0, "+"), whole(2, 1)), a(4)))
	makes(t, "A+[1 2]A", dyadic(a(0), on(prim(1, "+"), strand(whole(3, 1), whole(5, 2))), a(7)))
	makes(t, "+/[A-1]A", monadic(on(op(prim(0, "+"), "/"), dyadic(a(3), prim(4, "-"), whole(5, 1))), a(7)))
	makes(t, "+[1][2]/A", monadic(op(on(on(prim(0, "+"), whole(2, 1)), whole(5, 2)), "/"), a(8)))
	makes(t, "∘.+[1]A", monadic(on(jot(0, prim(2, "+")), whole(4, 1)), a(6)))
	makes(t, "F[1]A[2]", monadic(on(user(0, "F"), whole(2, 1)), indexed(5, a(4), whole(6, 2))))
}

func TestDfns(t *testing.T) { // P10.1
	for _, text := range []string{"{}", "{ ⍵ }", "{⍵≤1:1 ⋄ ⍵×∇ ⍵-1}", "{{⍵}⍵}", "{'}'}", "{'{'}", "{(]:;→⋄←⎕XX ∘ ¨}", "{a}", "{1 2\t3}", "{{}{{}}}", "{⎕NONE}", "{" + strings.Repeat("(", 100) + "}"} {
		at := len([]rune(text))
		makes(t, text+"5", monadic(dfn(0, text), whole(at, 5)))
		makes(t, " "+text+"/5", monadic(op(dfn(1, text), "/"), whole(at+2, 5)))
		makes(t, "A←"+text, assignFn(1, "A", dfn(2, text)))
	}
	makes(t, strings.Repeat("{", 200)+strings.Repeat("}", 200)+"A", monadic(dfn(0, strings.Repeat("{", 200)+strings.Repeat("}", 200)), name(400, "A"))) // braces do not count
	makes(t, "×{⍵}×5", monadic(prim(0, "×"), monadic(dfn(1, "{⍵}"), monadic(prim(4, "×"), whole(5, 5)))))
	fails(t, "{", api.Syntax, 1)
	fails(t, "{⍵ ", api.Syntax, 3)
	fails(t, "1+{{⍵}", api.Syntax, 6)
	fails(t, "{⍵ ⍝ }", api.Syntax, 6)
	fails(t, "}", api.Syntax, 0)
	fails(t, "{}}", api.Syntax, 2)
	fails(t, "{⍵}5}", api.Syntax, 4)
	fails(t, "{1}", api.Syntax, 0)
	fails(t, "{'}", api.ErrText, 1)
}

func TestExpressions(t *testing.T) { // P10.1
	a, b := name(0, "A"), name(2, "B")
	makes(t, "A+B×2", dyadic(a, prim(1, "+"), dyadic(b, prim(3, "×"), whole(4, 2))))
	makes(t, "A-+B", dyadic(a, prim(1, "-"), monadic(prim(2, "+"), name(3, "B"))))
	makes(t, "-A-B", monadic(prim(0, "-"), dyadic(name(1, "A"), prim(2, "-"), name(3, "B"))))
	makes(t, "A 1-2", dyadic(strand(a, whole(2, 1)), prim(3, "-"), whole(4, 2)))
	makes(t, "A F B G 2", dyadic(a, user(2, "F"), dyadic(name(4, "B"), user(6, "G"), whole(8, 2))))
	makes(t, "F G 2", monadic(user(0, "F"), monadic(user(2, "G"), whole(4, 2))))
	makes(t, "N+N", dyadic(niladic(0, "N"), prim(1, "+"), niladic(2, "N")))
	makes(t, "(A+B)×2", dyadic(dyadic(name(1, "A"), prim(2, "+"), name(3, "B")), prim(5, "×"), whole(6, 2)))
	makes(t, "A←5", assign(1, "A", whole(2, 5)))
	makes(t, "A←B←5", assign(1, "A", assign(3, "B", whole(4, 5))))
	makes(t, "2+A←5", dyadic(whole(0, 2), prim(1, "+"), assign(3, "A", whole(4, 5))))
	makes(t, "-A←5", monadic(prim(0, "-"), assign(2, "A", whole(3, 5))))
	makes(t, "A←-5", assign(1, "A", monadic(prim(2, "-"), whole(3, 5))))
	makes(t, "⍺←⎕IO←⎕←⍵", assign(1, "⍺", assign(5, "⎕IO", assign(7, "⎕", name(8, "⍵")))))
	makes(t, "(A)←5", assign(3, "A", whole(4, 5)))
	makes(t, "A[1;]←5", assignAt(5, "A", whole(6, 5), whole(2, 1), left()))
	makes(t, "A[]←B", assignAt(3, "A", name(4, "B"), left()))
	makes(t, "B+A[1]←5", dyadic(name(0, "B"), prim(1, "+"), assignAt(6, "A", whole(7, 5), whole(4, 1))))
	makes(t, "A[1]←B[2]←5", assignAt(4, "A", assignAt(9, "B", whole(10, 5), whole(7, 2)), whole(2, 1)))
	makes(t, "⎕IO[1]←5", assignAt(6, "⎕IO", whole(7, 5), whole(4, 1)))
	makes(t, "A←+", assignFn(1, "A", prim(2, "+")))
	makes(t, "A←+/[B]", assignFn(1, "A", on(op(prim(2, "+"), "/"), name(5, "B"))))
	makes(t, "⎕IO←∘.+", assignFn(3, "⎕IO", jot(4, prim(6, "+"))))
	makes(t, "A←F", assignFn(1, "A", user(2, "F")))
	makes(t, "2+(A←∇)", dyadic(whole(0, 2), prim(1, "+"), assignFn(4, "A", user(5, "∇"))))
	makes(t, "B[A←F]", indexed(1, name(0, "B"), assignFn(3, "A", user(4, "F"))))
}

func TestStatements(t *testing.T) { // P10.1
	for _, line := range []string{"", " ", "\t \t", "⍝", "⍝ A+", "  ⍝ → ("} {
		makes(t, line, left())
	}
	makes(t, "→0", branch(0, whole(1, 0)))
	makes(t, "  → A , B", branch(2, dyadic(name(4, "A"), prim(6, ","), name(8, "B"))))
	makes(t, "→", branch(0))
	makes(t, " → ", branch(1))
	makes(t, "→ ⍝ out", branch(0))
	makes(t, "→A←F", branch(0, assignFn(2, "A", user(3, "F"))))
	makes(t, "⍵:1", guard(1, name(0, "⍵"), whole(2, 1)))
	makes(t, "A=0 : B←1", guard(4, dyadic(name(0, "A"), prim(1, "="), whole(2, 0)), assign(7, "B", whole(8, 1))))
	makes(t, "A+1 ⍝ (", dyadic(name(0, "A"), prim(1, "+"), whole(2, 1)))
	makes(t, "A⍝+1", name(0, "A"))
}

func TestSyntaxErrors(t *testing.T) { // P10.1, P2
	for _, c := range []struct {
		line string
		at   int
	}{
		// A token that can be no part where it stands.
		{"1 ∘ 2", 4}, {"∘", 1}, {"∘+", 1}, {"∘ ∘.+1", 2}, {"A∘.5", 3}, {"A∘.∘.+5", 3}, {"∘.", 2}, {"+.5", 2}, {"A+.∘.×B", 3}, {"+.(A)B", 2}, {"+. ", 3}, {"A.B", 1}, {".", 0}, {"¨", 0}, {"A¨B", 1}, {"⍨5", 0}, {"A⍨", 1}, {"←¨", 1}, {"+.¨A", 2}, {"+..A", 2},
		{"[", 0}, {"[1]", 0}, {"A←[1]", 2}, {"([1])", 1}, {"A[[1]]", 2}, {"1→2", 1}, {"→→", 1}, {"(→1)", 1}, {"1:→2", 2}, {"A⋄B", 1}, {"⋄", 0}, {"A ⋄", 2}, {"A+}", 2}, {"⎕X", 0}, {"1+⎕io", 2}, {"⎕IOX", 0}, {"⎕F X", 0}, {"⎕FXX 1", 0}, {"+.⎕IO", 2}, {"+.⎕Q", 2},
		{"A F.B 1", 4}, {"F.N 1", 2}, {"+.⍵", 2}, {"∘.N 1", 2},
		// What an expression may not be, as soon as its end is met.
		{"()", 1}, {"2(", 2}, {")", 0}, {"]", 0}, {";", 0}, {":", 0}, {":1", 0}, {"1:", 2}, {"( )5", 2}, {"+[]A", 2}, {"+[;]A", 2}, {"A[(])", 3}, {"→)", 1}, {"→:", 1},
		{"+", 0}, {"A+", 1}, {"1 + ", 2}, {"+-", 1}, {"A F", 2}, {"F", 0}, {"∇", 0}, {"⎕FX", 0}, {"A ∘.+", 2}, {"A+/", 1}, {"A+.×", 1}, {"1+(A-)", 4}, {"(+)", 1}, {"A[+]", 2}, {"A[1;-]", 4}, {"+:1", 0}, {"1:-", 2}, {"→+", 1},
		{"A B←+", 4}, {"A←B←+", 4}, {"1←+", 2}, {"N←+", 2}, {"F←+", 2}, {"A[1]←+", 5}, {"←+", 1}, {"-A←+", 3}, {"2+A←+", 4}, {"'A'←{⍵}", 4}, {"A←-+", 3}, {"(A B)←+", 6}, {"A+←+", 3},
		{"←", 0}, {"A←", 1}, {"A←B←", 3}, {"A+B←", 3}, {"←1", 0}, {"A←←1", 2}, {"A B←1", 3}, {"1←2", 1}, {"'a'←2", 3}, {"N←1", 1}, {"N[1]←2", 4}, {"F←1", 1}, {"+←1", 1}, {"A+←1", 2}, {"A[1][2]←3", 7}, {"A B[1]←3", 6}, {"(A B)[1]←2", 8}, {"(A+B)←1", 5}, {"5[1]←2", 4}, {"(A←1)←2", 5}, {"F 1←2", 3}, {"∇←1", 1},
		// Taken from the right, the last one that cannot stand there tells.
		{"1←2←3", 3}, {"1←A←3", 1}, {"(1←)2←3", 2}, {"(1←2)(3←4)", 2}, {"1←(2←3)", 4}, {"A B←1 ∘ 2", 8}, {"1←2(", 4}, {"1←2)", 1}, {"A←+)", 3}, {"+)", 0}, {"(+;", 1}, {"(1←2;", 2}, {"A[1←2", 3},
		// Brackets that are not closed, or do not go together.
		{"(", 1}, {"(1", 2}, {"(1 ⍝)", 5}, {"((1)", 4}, {"(1]", 2}, {"(1;2)", 2}, {"(1:2)", 2}, {"1)", 1}, {"1]", 1}, {"1;2", 1}, {"1:2:3", 3}, {"→1:2", 2}, {"A[", 2}, {"A[1", 3}, {"A[1;", 4}, {"A[1)", 3}, {"A[)", 2}, {"A[:]", 2}, {"A[1:2]", 3}, {"A[1 ", 4}, {"+[1", 3}, {"+[1;2]A", 3}, {"+[1)A", 3}, {"+[", 2}, {"+[1]", 0}, {"(A[1)]", 4}, {"1 2)3", 3},
	} {
		fails(t, c.line, api.Syntax, c.at)
	}
	fails(t, "⍵⍵⍵)", api.Syntax, 3) // places are characters
	fails(t, "  2(  ", api.Syntax, 6)
	fails(t, "2( ⍝ more", api.Syntax, 9)
}

func TestLexErrors(t *testing.T) { // P10.1, P1
	for _, line := range []string{"1r", "A+1.2.3", "'a", "A+'", "A$B", "\xff", "⍵\xe2\x8d", "A+\"", strings.Repeat("9", 701), strings.Repeat("A", 33), strings.Repeat(" ", 1025), "(1r)", "A ∘ 1r", strings.Repeat("A ", 600) + "\xff", "{1r}5", "1+\ud7ff\u00a0"} {
		_, want, place := lex.All(line)
		if want == api.OK {
			t.Error(line)
		}
		fails(t, line, want, place)
	}
}

func TestNest(t *testing.T) { // P10.1, P5
	most := api.MaxNest
	open := func(n int) string { return strings.Repeat("(", n) }
	shut := func(n int) string { return strings.Repeat(")", n) }
	makes(t, open(most)+"1"+shut(most), whole(most, 1))
	fails(t, open(most+1)+"1"+shut(most+1), api.Limit, most)
	fails(t, open(most+1), api.Limit, most)
	fails(t, open(most), api.Syntax, most)
	fails(t, open(most+40)+"∘", api.Limit, most)
	if _, e, _ := parse.Statement(open(most-1) + "A[1]" + shut(most-1)); e != api.OK {
		t.Error(e)
	}
	fails(t, open(most)+"A[1]"+shut(most), api.Limit, most+1)
	fails(t, open(most)+"+[1]A"+shut(most), api.Limit, most+1)
	fails(t, open(most)+"1[", api.Limit, most+1)
	fails(t, open(most)+"[", api.Syntax, most) // it can stand nowhere here, deep or not
	squares := strings.Repeat("A[", most)
	if _, e, _ := parse.Statement(squares + "1" + strings.Repeat("]", most)); e != api.OK {
		t.Error(e)
	}
	fails(t, squares+"A[1]"+strings.Repeat("]", most), api.Limit, 2*most+1)
	axes := strings.Repeat("+[", most)
	if _, e, _ := parse.Statement(axes + "1" + strings.Repeat("]A", most)); e != api.OK {
		t.Error(e)
	}
	fails(t, axes+"(1)"+strings.Repeat("]A", most), api.Limit, 2*most)
	// Those that are closed count no more, and braces never.
	if _, e, _ := parse.Statement(strings.Repeat("(1)", 200)); e != api.OK {
		t.Error(e)
	}
	if _, e, _ := parse.Statement("A" + strings.Repeat("[1]", 200)); e != api.OK {
		t.Error(e)
	}
	if _, e, _ := parse.Statement(open(most) + "{(" + "}1" + shut(most)); e != api.OK {
		t.Error(e)
	}
	fails(t, strings.Repeat("(1)", 100)+open(most+1), api.Limit, 300+most)
	// Functions may be deeper.
	tree, e, _ := parse.Statement("+" + strings.Repeat("/", 900) + "A")
	if e != api.OK || parse.Size(tree) != 2 {
		t.Error(e, parse.Size(tree))
	}
}

func TestKnown(t *testing.T) { // P10.1
	type list = []parse.Known
	for _, c := range []struct {
		known list
		line  string
		want  string
	}{
		{nil, "F A", "(F A)"}, {list{{Name: "F"}}, "F A", "(F A)"}, {list{{Name: "F"}}, "A F B", "(A F B)"}, {nil, "A F B", "(A F B)"}, {nil, "A F/B", "((A F) / B)"}, {list{{Name: "F"}}, "A F/B", "(A F/ B)"},
		{list{{Name: "F", Niladic: true}}, "F/B", "(F / B)"}, {list{{Name: "F", Niladic: true}, {Name: "F"}}, "F/B", "(F / B)"}, {list{{Name: "F"}, {Name: "F", Niladic: true}}, "F/B", "(F/ B)"},
		{list{{Name: ""}, {Name: "⍵"}, {Name: "⍺", Niladic: true}, {Name: "⎕IO"}, {Name: "⎕", Niladic: true}, {Name: "1"}, {Name: "+", Niladic: true}, {Name: "F A"}, {Name: "\xff"}, {Name: " B"}, {Name: strings.Repeat("x", 500)}, {Name: "⎕FX", Niladic: true}, {Name: "∇", Niladic: true}, {Name: "⎕NO"}}, "⍵ ⍺ ⎕IO ⎕ 1+B A", "((⍵ ⍺ ⎕IO ⎕ (1)) + (B A))"},
	} {
		tree, e, _ := parse.Statement(c.line, c.known...)
		if e != api.OK || parse.Print(tree) != c.want {
			t.Error(c.line, c.known, e, parse.Print(tree))
		}
	}
	noNames := list{{Name: "⎕IO", Niladic: true}, {Name: "⍵", Niladic: true}, {Name: "⎕", Niladic: true}, {Name: "⎕FX", Niladic: true}, {Name: "∇", Niladic: true}, {Name: "⎕NO"}}
	tree, e, _ := parse.Statement("⎕IO ⍵ ⎕", noNames...)
	if want := strand(name(0, "⎕IO"), name(4, "⍵"), name(6, "⎕")); e != api.OK || !same(tree, want, true) {
		t.Error(e, tree)
	}
	if tree, e, _ := parse.Statement("∇⎕FX 1", noNames...); e != api.OK || !same(tree, monadic(user(0, "∇"), monadic(user(1, "⎕FX"), whole(5, 1))), true) {
		t.Error(e, tree)
	}
	if _, e, at := parse.Statement("1 ⎕NO 2", noNames...); e != api.Syntax || at != 2 {
		t.Error(e, at)
	}
	l := known()
	before := append(list(nil), l...)
	parse.Statement("F N", l[:3]...)
	for k := range l {
		if l[k] != before[k] {
			t.Error(l)
		}
	}
}

// TestWritten holds trees against statements that were written with them in mind.
func TestWritten(t *testing.T) { // P10.1, P10.3, P10.4, P3, E6
	d := dice(271828182845904523)
	printed := 0
	for range 20000 {
		w := &writer{d: &d, wide: d.next(2) == 0, seldom: 6}
		want := w.statement()
		line := string(w.line)
		got, e, at := parse.Statement(line, known()...)
		if e != api.OK || at != 0 || !same(got, want, true) {
			t.Fatal(line, "is", parse.Print(got), e, at, "want", parse.Print(want))
		}
		again, _, _ := parse.Statement(line, known()...)
		apart(t, line, got, again)
		wider, e, _ := parse.Statement("\t "+strings.Join(w.tokens, " \t")+" ", known()...)
		if e != api.OK || !same(wider, want, false) {
			t.Fatal(line, e)
		}
		text := parse.Print(got)
		if len(text) > api.MaxLine {
			continue
		}
		back, e, _ := parse.Statement(text, known()...)
		if e != api.OK || parse.Print(back) != text || !same(back, want, false) {
			t.Fatal(line, "prints", text, e, "and that", parse.Print(back))
		}
		printed++
	}
	if printed < 15000 {
		t.Error(printed)
	}
}

// TestAnyTokens: any tokens in a row have a tree, or an error whose place is in the line.
func TestAnyTokens(t *testing.T) { // P10.1, P10.3, P10.4, P1
	tokens := []string{"A", "F", "N", "1", "'ab'", "⍵", "⎕IO", "⎕FX", "⎕XX", "+", "/", "¨", "∘", ".", "⍨", "(", ")", "[", "]", ";", "{", "}", "←", "→", "⋄", ":", "∇", "(", ")", "A", "+", "1", "←", "A", "[", "]", "/"}
	d := dice(31415926535)
	trees := 0
	for range 60000 {
		var l []string
		for range 1 + d.next(9) {
			l = append(l, tokens[d.next(len(tokens))])
		}
		line := strings.Join(l, " ")
		got, e, at := parse.Statement(line, known()...)
		wide, e2, at2 := parse.Statement("  "+strings.Join(l, "   ")+"\t", known()...)
		if e != e2 {
			t.Fatal(line, e, e2)
		}
		if e != api.OK {
			if e != api.Syntax || at < 0 || at > len([]rune(line)) || !same(got, api.Tree{}, true) || tokenAt(l, " ", at, 0) != tokenAt(l, "   ", at2, 2) {
				t.Fatal(line, e, at, at2)
			}
			continue
		}
		trees++
		if text := parse.Print(got); !strings.Contains(line, "{") && text != parse.Print(wide) {
			t.Fatal(line, text)
		}
		back, e, _ := parse.Statement(parse.Print(got), known()...)
		if e != api.OK || parse.Print(back) != parse.Print(got) {
			t.Fatal(line, parse.Print(got), e)
		}
	}
	if trees < 2000 {
		t.Error(trees)
	}
}

// tokenAt is the number of the token that begins at a place, of tokens with some blanks between them, and ahead; behind all of them: how many there are.
func tokenAt(l []string, between string, at, ahead int) int {
	place := ahead
	for k, token := range l {
		if place == at {
			return k
		}
		place += len([]rune(token)) + len(between)
	}
	if at > place-len(between)-1 {
		return len(l)
	}
	return -1
}
